/- The program's CountBySize. -/
import Derived.Test.YtnebkhelobpkpaaDoorCnt
namespace Go.Proofs.YtnebkhelobpkpaaDoor
open Go.RowKit Go.Deep Go.Shelf
set_option linter.unusedVariables false
attribute [local go_sem] Oper.semAt_some

/-- What lies where the groups are counted. -/
structure InvC (w : World) (T m b N : Nat) (q : Nat → Bool) (f : Nat → Nat) (W : World) : Prop where
  bel : Below w.heap.size w W
  sz : b + 4 ≤ W.heap.size
  p4 : W.cell? ⟨b, 0, none⟩ = some (.pointer (some ⟨T, 0, none⟩))
  p5 : W.cell? ⟨b + 1 + 1, 0, none⟩ = some (.slice (some ⟨b + 1, 0, none⟩) N N)
  tab : TableAt W T m q
  row : W.rowIs (b + 1) 2 N (fun i => .int .i64 ((f i : Nat) : Int))

theorem i64_wrap_small {x : Int} {n : Nat} (h : x = (n : Int)) (hn : n < 1000) : IntKind.i64.wrap x = (n : Int) := by
  subst h
  rw [IntKind.wrap_i64]
  omega

theorem rowIs_kept {W W' : World} {row : Option Nat} {g n : Nat} {t : TypeId} {f : Nat → Value} (hs : W.rowIs g t n f) (hg : W.grownBy W' row) (hr' : ∀ r, row = some r → ∃ o : Obj, W.heap[r]? = some o ∧ o.isCells = false) : W'.rowIs g t n f := by
  refine hs.of_block (hg.block _ hs.lt (fun e => ?_))
  obtain ⟨ob, h1, h2⟩ := hr' _ e.symm
  obtain ⟨c, hgc, _⟩ := hs
  rw [hgc] at h1
  cases h1
  simp [Obj.isCells] at h2

theorem InvC.own {w : World} {T m b N : Nat} {q : Nat → Bool} {f : List G7 → Nat → Nat} {B : Nat} (hB : w.heap.size ≤ B) : OwnFrom B (fun pre W => InvC w T m b N q (f pre) W) := by
  intro pre W W' row hs hg hr
  have hr' : ∀ r, row = some r → ∃ o : Obj, W.heap[r]? = some o ∧ o.isCells = false := fun r e => (hr r e).2
  exact ⟨hs.bel.grown hg hs.bel.size (fun k hk => by have := (hr k hk).1; omega), Nat.le_trans hs.sz hg.size, cell_kept hs.p4 hg hr', cell_kept hs.p5 hg hr', hs.tab.kept hg hr', rowIs_kept hs.row hg hr'⟩
theorem InvC.step {w W W' : World} {T m b N : Nat} {q : Nat → Bool} {f : Nat → Nat} (hs : InvC w T m b N q f W) (hb : Below W.heap.size W W') : InvC w T m b N q f W' :=
  ⟨chain2 hs.bel hb hs.bel.size, Nat.le_trans hs.sz hb.size, cell_step hb hs.p4, cell_step hb hs.p5, hs.tab.step hb, rowIs_below hs.row hb hs.row.lt⟩
theorem InvC.mark {w W : World} {T m b N s : Nat} {q : Nat → Bool} {f : Nat → Nat} (hs : InvC w T m b N q f W) (hT : w.heap.size ≤ b ∧ T < b) (hsN : s < N) (v : Nat) :
    InvC w T m b N q (fun i => if i = s then v else f i) (W.setCell ⟨b + 1, s, none⟩ (.int .i64 ((v : Nat) : Int))) := by
  refine ⟨hs.bel.setCell (by simp <;> omega) _, by simpa [World.setCell] using hs.sz, ?_, ?_, ⟨?_, fun y hy => ?_, fun o => ?_⟩, ?_⟩
  · rw [World.cell?_setCell_other _ _ _ _ (by simp <;> omega)]; exact hs.p4
  · rw [World.cell?_setCell_other _ _ _ _ (by simp <;> omega)]; exact hs.p5
  · rw [World.cell?_setCell_other _ _ _ _ (by simp <;> omega)]; exact hs.tab.h0
  · rw [World.cell?_setCell_other _ _ _ _ (by simp <;> omega)]; exact hs.tab.cell y hy
  · rw [World.frozen?_setCell]; exact hs.tab.free o
  · refine (hs.row.set s _).congr fun i _ => ?_
    by_cases e : i = s <;> simp [e]
theorem InvC.alike {w W : World} {T m b N : Nat} {q : Nat → Bool} {f f' : Nat → Nat} (hs : InvC w T m b N q f W) (e : ∀ i, f i = f' i) : InvC w T m b N q f' W := by
  have : f = f' := funext e
  exact this ▸ hs
theorem InvC.init (w w2 : World) (T m N : Nat) (q : Nat → Bool) (t1 t3 t4 : TypeId) (hb : Below w.heap.size w w2) (ht : TableAt w2 T m q) :
    InvC w T m w2.heap.size N q (fun _ => 0) ((((w2.alloc (Obj.cells #[.pointer (some ⟨T, 0, none⟩)] t1)).alloc (Obj.cells (madeCells #[.int .i64 0] N) 2)).alloc (Obj.cells #[.slice (some { block := w2.heap.size + 1, off := 0 }) N N] t3)).alloc (Obj.cells #[.int .i64 (m : Nat)] t4)) := by
  have h1 := (Below.refl w2.heap.size w2).alloc (Nat.le_refl _) (.cells #[.pointer (some ⟨T, 0, none⟩)] t1)
  have r0 := World.rowIs_made (w2.alloc (.cells #[.pointer (some ⟨T, 0, none⟩)] t1)) (.int .i64 0) N 2
  rw [World.size_alloc] at r0
  have h2 := h1.alloc (by simp) (.cells (madeCells #[.int .i64 0] N) 2)
  have h3 := h2.alloc (by simp <;> omega) (.cells #[.slice (some ⟨w2.heap.size + 1, 0, none⟩) N N] t3)
  have h4 := h3.alloc (by simp <;> omega) (.cells #[.int .i64 (m : Nat)] t4)
  refine ⟨hb.trans (h4.mono hb.size), by simp, by simp [go_sem], by simp [go_sem], ht.step h4, ?_⟩
  refine rowIs_below r0 (((Below.refl _ _).alloc (Nat.le_refl _) (.cells #[.slice (some ⟨w2.heap.size + 1, 0, none⟩) N N] t3)).alloc (by simp) (.cells #[.int .i64 (m : Nat)] t4)) r0.lt

end Go.Proofs.YtnebkhelobpkpaaDoor

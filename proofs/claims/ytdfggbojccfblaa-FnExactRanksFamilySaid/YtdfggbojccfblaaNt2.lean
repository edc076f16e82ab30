/- The program's newTable. -/
import Derived.Test.YtdfggbojccfblaaNt
namespace Go.Proofs.Ytdfggbojccfblaa
open Go.RowKit Go.Deep Go.Shelf
set_option linter.unusedVariables false
attribute [local go_sem] Oper.semAt_some

/-- What lies where 'newTable' works. -/
structure InvT (w : World) (h : Nat) (u : Value) (q : Nat → Bool) (W : World) : Prop where
  bel : Below w.heap.size w W
  sz : w.heap.size + 4 ≤ W.heap.size
  op : W.cell? ⟨w.heap.size, 0, none⟩ = some u
  tp : W.cell? ⟨w.heap.size + 1 + 1, 0, none⟩ = some (.pointer (some ⟨w.heap.size + 1, 0, none⟩))
  tab : TableAt W (w.heap.size + 1) h q

theorem TableAt.kept {W W' : World} {row : Option Nat} {T h : Nat} {q : Nat → Bool} (ht : TableAt W T h q) (hg : W.grownBy W' row) (hr' : ∀ r, row = some r → ∃ o : Obj, W.heap[r]? = some o ∧ o.isCells = false) : TableAt W' T h q := by
  refine ⟨cell_kept ht.h0 hg hr', fun x hx => cell_kept (ht.cell x hx) hg hr', fun o => ?_⟩
  have hb : W'.heap[T]? = W.heap[T]? := by
    refine hg.block _ (World.block_lt_of_cell? _ _ ht.h0) (fun e => ?_)
    obtain ⟨ob, h1, h2⟩ := hr' _ e.symm
    have h3 := ht.h0
    simp only [World.cell?, h1] at h3
    cases ob <;> simp_all [Obj.isCells]
  rw [World.frozen?_of_block (w := W) (a := ⟨T, o, none⟩) hb]
  exact ht.free o
theorem TableAt.step {W W' : World} {T h : Nat} {q : Nat → Bool} (ht : TableAt W T h q) (hb : Below W.heap.size W W') : TableAt W' T h q := ht.below hb (World.block_lt_of_cell? _ _ ht.h0)

theorem InvT.own {w : World} {h : Nat} {u : Value} {q : List G7 → Nat → Bool} {B : Nat} (hB : w.heap.size ≤ B) : OwnFrom B (fun pre W => InvT w h u (q pre) W) := by
  intro pre W W' row hs hg hr
  have hr' : ∀ r, row = some r → ∃ o : Obj, W.heap[r]? = some o ∧ o.isCells = false := fun r e => (hr r e).2
  exact ⟨hs.bel.grown hg hs.bel.size (fun k hk => by have := (hr k hk).1; omega), Nat.le_trans hs.sz hg.size, cell_kept hs.op hg hr', cell_kept hs.tp hg hr', hs.tab.kept hg hr'⟩
theorem InvT.step {w W W' : World} {h : Nat} {u : Value} {q : Nat → Bool} (hs : InvT w h u q W) (hb : Below W.heap.size W W') : InvT w h u q W' :=
  ⟨chain2 hs.bel hb hs.bel.size, Nat.le_trans hs.sz hb.size, cell_step hb hs.op, cell_step hb hs.tp, hs.tab.step hb⟩
theorem InvT.mark {w W : World} {h : Nat} {u : Value} {q : Nat → Bool} (hs : InvT w h u q W) (x : Nat) (hx : x < 128) (b : Bool) :
    InvT w h u (fun y => if y = x then b else q y) (W.setCell ⟨w.heap.size + 1, 1 + x, none⟩ (.bool b)) := by
  refine ⟨hs.bel.setCell (by simp <;> omega) _, by simpa [World.setCell] using hs.sz, ?_, ?_, ?_, fun y hy => ?_, fun o => ?_⟩
  · rw [World.cell?_setCell_other _ _ _ _ (by simp <;> omega)]; exact hs.op
  · rw [World.cell?_setCell_other _ _ _ _ (by simp <;> omega)]; exact hs.tp
  · rw [World.cell?_setCell_other _ _ _ _ (by simp <;> omega)]; exact hs.tab.h0
  · by_cases e : y = x
    · subst e
      rw [if_pos rfl]
      exact World.cell?_setCell_same _ _ _ (hs.tab.cell y hy)
    · rw [if_neg e, World.cell?_setCell_other _ _ _ _ (by simp <;> omega)]; exact hs.tab.cell y hy
  · rw [World.frozen?_setCell]; exact hs.tab.free o
theorem InvT.alike {w W : World} {h : Nat} {u : Value} {q q' : Nat → Bool} (hs : InvT w h u q W) (e : ∀ x, x < 128 → q x = q' x) : InvT w h u q' W :=
  ⟨hs.bel, hs.sz, hs.op, hs.tp, hs.tab.h0, fun x hx => by rw [← e x hx]; exact hs.tab.cell x hx, hs.tab.free⟩
theorem InvT.init (w : World) (h : Nat) (u : Value) (p : Nat → Bool) (t1 t2 t3 t4 : TypeId) :
    InvT w h u (seenBy p []) ((((w.alloc (Obj.cells #[u] t1)).alloc (Obj.cells (#[.int .i64 (h : Nat)] ++ Array.replicate 128 (.bool false)) t2)).alloc (Obj.cells #[Value.pointer (some { block := w.heap.size + 1, off := 0 })] t3)).alloc (Obj.cells #[Value.int .i64 (h : Nat)] t4)) := by
  refine ⟨(((((Below.refl _ w).alloc (Nat.le_refl _) _).alloc (by simp) _).alloc (by simp <;> omega) _).alloc (by simp <;> omega) _), by simp, by simp [go_sem], by simp [go_sem], ⟨by simp [go_sem], fun x hx => ?_, fun o => by simp [go_sem]⟩⟩
  have e : seenBy p [] x = false := by simp [seenBy]
  rw [e, World.cell?_alloc_past _ _ _ (by simp), World.cell?_alloc_past _ _ _ (by simp), World.cell?_alloc_at _ _ _ _ (by simp)]
  rw [Array.getElem?_append_right (by simp)]
  simp [hx]

/-- What gives a table. -/
structure GivesTab (W : World) (h : Nat) (q : Nat → Bool) (e : Ending) (w' : World) : Prop where
  val : ∃ T, e = .returned (.pointer (some ⟨T, 0, none⟩)) ∧ W.heap.size ≤ T ∧ TableAt w' T h q
  below : Below W.heap.size W w'

end Go.Proofs.Ytdfggbojccfblaa

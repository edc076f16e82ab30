/- The family of a rule: familyWhere, groupsWhere. -/
import Derived.Test.YtnebkhelobpkpaaDoorIter
import Derived.Test.YtnebkhelobpkpaaDoorList
import Derived.Shelf.RegionOpen
import Derived.RangeFuncFrom
import Derived.RangeFuncWrites
import Derived.RangeFuncBox
namespace Go.Proofs.YtnebkhelobpkpaaDoor
open Go.RowKit Go.Deep Go.Shelf
set_option linter.unusedVariables false
attribute [local go_sem] Oper.semAt_some

/-- A table of who may open, in a block. -/
structure TableAt (w : World) (T : Nat) (h : Nat) (q : Nat → Bool) : Prop where
  h0 : w.cell? ⟨T, 0, none⟩ = some (.int .i64 (h : Nat))
  cell : ∀ x, x < 128 → w.cell? ⟨T, 1 + x, none⟩ = some (.bool (q x))
  free : ∀ o, w.frozen? ⟨T, o, none⟩ = false

theorem Tryd.zeroTable : Tryd.zeroCells131 = #[.int .i64 0] ++ Array.replicate 128 (.bool false) := by kernel_rfl

/-- What lies where 'familyWhere' works. -/
structure Inv (w : World) (h : Nat) (fv : Value) (q : Nat → Bool) (W : World) : Prop where
  bel : Below w.heap.size w W
  sz : w.heap.size + 5 ≤ W.heap.size
  op : W.cell? ⟨w.heap.size, 0, none⟩ = some fv
  tp : W.cell? ⟨w.heap.size + 1 + 1 + 1, 0, none⟩ = some (.pointer (some ⟨w.heap.size + 1 + 1, 0, none⟩))
  r0 : W.cell? ⟨w.heap.size + 1, 0, none⟩ = some (.int .i64 0)
  r1 : W.cell? ⟨w.heap.size + 1, 1, none⟩ = some (.slice none 0 0)
  rf0 : W.frozen? ⟨w.heap.size + 1, 0, none⟩ = false
  rf1 : W.frozen? ⟨w.heap.size + 1, 1, none⟩ = false
  tab : TableAt W (w.heap.size + 1 + 1) h q

theorem chain2 {B : Nat} {a b c : World} (h : Below B a b) (k : Below b.heap.size b c) (hB : B ≤ b.heap.size) : Below B a c := h.trans (k.mono hB)

theorem Inv.own {w : World} {h : Nat} {fv : Value} {q : List G7 → Nat → Bool} {B : Nat} (hB : w.heap.size ≤ B) : OwnFrom B (fun pre W => Inv w h fv (q pre) W) := by
  intro pre W W' row hs hg hr
  have hr' : ∀ r, row = some r → ∃ o : Obj, W.heap[r]? = some o ∧ o.isCells = false := fun r e => (hr r e).2
  refine ⟨hs.bel.grown hg hs.bel.size (fun k hk => by have := (hr k hk).1; omega), Nat.le_trans hs.sz hg.size, cell_kept hs.op hg hr', cell_kept hs.tp hg hr', cell_kept hs.r0 hg hr', cell_kept hs.r1 hg hr', (frozen_kept hs.r0 hg hr').trans hs.rf0, (frozen_kept hs.r1 hg hr').trans hs.rf1, ⟨cell_kept hs.tab.h0 hg hr', fun x hx => cell_kept (hs.tab.cell x hx) hg hr', fun o => ?_⟩⟩
  have hb : W'.heap[w.heap.size + 1 + 1]? = W.heap[w.heap.size + 1 + 1]? := by
    refine hg.block _ (World.block_lt_of_cell? _ _ hs.tab.h0) (fun e => ?_)
    obtain ⟨ob, h1, h2⟩ := hr' _ e.symm
    have h3 := hs.tab.h0
    simp only [World.cell?, h1] at h3
    cases ob <;> simp_all [Obj.isCells]
  rw [World.frozen?_of_block (w := W) (a := ⟨w.heap.size + 1 + 1, o, none⟩) hb]
  exact hs.tab.free o

theorem Inv.step {w W W' : World} {h : Nat} {fv : Value} {q : Nat → Bool} (hs : Inv w h fv q W) (hb : Below W.heap.size W W') : Inv w h fv q W' := by
  refine ⟨chain2 hs.bel hb hs.bel.size, Nat.le_trans hs.sz hb.size, cell_step hb hs.op, cell_step hb hs.tp, cell_step hb hs.r0, cell_step hb hs.r1, ?_, ?_, cell_step hb hs.tab.h0, fun x hx => cell_step hb (hs.tab.cell x hx), fun o => ?_⟩
  · rw [hb.frozen (World.block_lt_of_cell? _ _ hs.r0)]; exact hs.rf0
  · rw [hb.frozen (p := ⟨w.heap.size + 1, 1, none⟩) (World.block_lt_of_cell? _ _ hs.r1)]; exact hs.rf1
  · rw [hb.frozen (p := ⟨w.heap.size + 1 + 1, o, none⟩) (World.block_lt_of_cell? W ⟨w.heap.size + 1 + 1, 0, none⟩ hs.tab.h0)]; exact hs.tab.free o

theorem Inv.mark {w W : World} {h : Nat} {fv : Value} {q : Nat → Bool} (hs : Inv w h fv q W) (x : Nat) (hx : x < 128) (b : Bool) :
    Inv w h fv (fun y => if y = x then b else q y) (W.setCell ⟨w.heap.size + 1 + 1, 1 + x, none⟩ (.bool b)) := by
  refine ⟨hs.bel.setCell (by simp <;> omega) _, by simpa [World.setCell] using hs.sz, ?_, ?_, ?_, ?_, ?_, ?_, ?_, fun y hy => ?_, fun o => ?_⟩
  · rw [World.cell?_setCell_other _ _ _ _ (by simp <;> omega)]; exact hs.op
  · rw [World.cell?_setCell_other _ _ _ _ (by simp <;> omega)]; exact hs.tp
  · rw [World.cell?_setCell_other _ _ _ _ (by simp <;> omega)]; exact hs.r0
  · rw [World.cell?_setCell_other _ _ _ _ (by simp <;> omega)]; exact hs.r1
  · rw [World.frozen?_setCell]; exact hs.rf0
  · rw [World.frozen?_setCell]; exact hs.rf1
  · rw [World.cell?_setCell_other _ _ _ _ (by simp <;> omega)]; exact hs.tab.h0
  · by_cases e : y = x
    · subst e
      rw [if_pos rfl]
      exact World.cell?_setCell_same _ _ _ (hs.tab.cell y hy)
    · rw [if_neg e, World.cell?_setCell_other _ _ _ _ (by simp <;> omega)]; exact hs.tab.cell y hy
  · rw [World.frozen?_setCell]; exact hs.tab.free o

theorem Inv.alike {w W : World} {h : Nat} {fv : Value} {q q' : Nat → Bool} (hs : Inv w h fv q W) (e : ∀ x, x < 128 → q x = q' x) : Inv w h fv q' W :=
  ⟨hs.bel, hs.sz, hs.op, hs.tp, hs.r0, hs.r1, hs.rf0, hs.rf1, hs.tab.h0, fun x hx => by rw [← e x hx]; exact hs.tab.cell x hx, hs.tab.free⟩

/-- Who has been found to open. -/
def seenBy (p : Nat → Bool) (pre : List G7) (x : Nat) : Bool := decide (∃ y ∈ pre, y.val = x) && p x

theorem seenBy_snoc (p : Nat → Bool) (pre : List G7) (x : G7) (y : Nat) : (if y = x.val then p x.val else seenBy p pre y) = seenBy p (pre ++ [x]) y := by
  unfold seenBy
  by_cases e : y = x.val
  · subst e; simp
  · simp [e, Ne.symm e]

theorem Inv.init (w : World) (h : Nat) (fv : Value) (p : Nat → Bool) (t1 t2 t3 t4 t5 : TypeId) :
    Inv w h fv (seenBy p []) (((((w.alloc (Obj.cells #[fv] t1)).alloc (Obj.cells #[Value.int .i64 0, Value.slice none 0 0] t2)).alloc (Obj.cells (#[.int .i64 (h : Nat)] ++ Array.replicate 128 (.bool false)) t3)).alloc (Obj.cells #[Value.pointer (some { block := w.heap.size + 1 + 1, off := 0 })] t4)).alloc (Obj.cells #[Value.int .i64 (h : Nat)] t5)) := by
  refine ⟨((((((Below.refl _ w).alloc (Nat.le_refl _) _).alloc (by simp) _).alloc (by simp <;> omega) _).alloc (by simp <;> omega) _).alloc (by simp <;> omega) _), by simp, by simp [go_sem], by simp [go_sem], by simp [go_sem], by simp [go_sem], by simp [go_sem], by simp [go_sem], ⟨by simp [go_sem], fun x hx => ?_, fun o => by simp [go_sem]⟩⟩
  have e : seenBy p [] x = false := by simp [seenBy]
  rw [e, World.cell?_alloc_past _ _ _ (by simp), World.cell?_alloc_past _ _ _ (by simp), World.cell?_alloc_at _ _ _ _ (by simp)]
  rw [Array.getElem?_append_right (by simp)]
  simp [hx]

theorem tableInit (h : Nat) : Tryd.zeroCells131.setIfInBounds 0 (Value.int .i64 (h : Nat)) = #[.int .i64 (h : Nat)] ++ Array.replicate 128 (.bool false) := by rw [Tryd.zeroTable]; apply Array.toList_inj.1; simp only [Array.toList_setIfInBounds, Array.toList_append, List.cons_append, List.nil_append, List.set_cons_zero]
end Go.Proofs.YtnebkhelobpkpaaDoor

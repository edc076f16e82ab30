/- The contract of the model's check of families: l01Ok. -/
import Derived.Test.YteifllengcacbaaDoorBits
import Derived.Test.YteifllengcacbaaDoorOpen
namespace Go.Proofs.YteifllengcacbaaDoor
open Go.RowKit Go.Deep
set_option linter.unusedVariables false

/-- A family in a box. -/
def FamBox (w : World) (f : Nat) (h : Int) (a : Option Addr) (n c : Nat) : Prop := w.cell? ⟨f, 0, none⟩ = some (.int .i64 h) ∧ w.cell? ⟨f, 1, none⟩ = some (.slice a n c)
theorem FamBox.quiet {w w' : World} {f : Nat} {h : Int} {a : Option Addr} {n c : Nat} (k : FamBox w f h a n c) (q : Quiet w w') : FamBox w' f h a n c := ⟨(q.cell _).trans k.1, (q.cell _).trans k.2⟩
theorem FamBox.below {B : Nat} {w w' : World} {f : Nat} {h : Int} {a : Option Addr} {n c : Nat} (k : FamBox w f h a n c) (hb : Below B w w') (hB : w.heap.size ≤ B) : FamBox w' f h a n c := by
  have := World.block_lt_of_cell? _ _ k.1
  exact ⟨(hb.cell (p := ⟨f, 0, none⟩) (Nat.lt_of_lt_of_le this hB)).trans k.1, (hb.cell (p := ⟨f, 1, none⟩) (Nat.lt_of_lt_of_le this hB)).trans k.2⟩

theorem Small2.lens {zss : List (List Int)} (h : Small2 zss) : Lens zss := ⟨by have := h.1; omega, fun r hr => by have := h.2 r hr; omega⟩

end Go.Proofs.YteifllengcacbaaDoor

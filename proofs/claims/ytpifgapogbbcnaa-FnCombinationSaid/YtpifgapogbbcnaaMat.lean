/- The contracts of the laws' own helpers on matrices: szMatrix, toMatrix, eqMatrix, markMatrix, heldMatrix. -/
import Derived.Test.YtpifgapogbbcnaaKa
namespace Go.Proofs.Ytpifgapogbbcnaa
open Go.ChangeShapes Go.WideShapes Go.ChangeAt Go.RowKit Go.Deep Go.Joins
set_option linter.unusedVariables false

theorem Small2.lens {zss : List (List Int)} (h : Small2 zss) : Lens zss := ⟨by have := h.1; omega, fun r hr => by have := h.2 r hr; omega⟩

theorem Boxes.m0 {W : World} {B : Nat} {t : TypeId} {v0 v1 v2 : Value} (h : Boxes W B t #[v0, v1, v2]) : W.cell? ⟨B, 0, none⟩ = some v0 := by rw [h.cell]; rfl
theorem Boxes.m1 {W : World} {B : Nat} {t : TypeId} {v0 v1 v2 : Value} (h : Boxes W B t #[v0, v1, v2]) : W.cell? ⟨B, 1, none⟩ = some v1 := by rw [h.cell]; rfl
theorem Boxes.m2 {W : World} {B : Nat} {t : TypeId} {v0 v1 v2 : Value} (h : Boxes W B t #[v0, v1, v2]) : W.cell? ⟨B, 2, none⟩ = some v2 := by rw [h.cell]; rfl

/-- What gives a matrix and a code, to be read. -/
structure GivesMX (W : World) (h l : Int) (zss : List (List Int)) (code : Int) (e : Ending) (w' : World) : Prop where
  val : ∃ a c, e = .returned (.tuple #[.agg #[.int .i64 h, .int .i64 l, .slice a zss.length c], .int .i64 code]) ∧ Rows2 w' a zss
  below : Below W.heap.size W w'
/-- What gives a matrix and a code in memory of its own. -/
structure GivesMY (W : World) (h l : Int) (zss : List (List Int)) (code : Int) (e : Ending) (w' : World) : Prop where
  val : ∃ v us, e = .returned (.tuple #[.agg #[.int .i64 h, .int .i64 l, v], .int .i64 code]) ∧ Own w' W.heap.size v us zss
  below : Below W.heap.size W w'
theorem GivesMY.x {W w' : World} {h l code : Int} {zss : List (List Int)} {e : Ending} (k : GivesMY W h l zss code e w') : GivesMX W h l zss code e w' := by
  obtain ⟨v, us, rfl, ho⟩ := k.val
  obtain ⟨a, c, rfl, hr⟩ := ho.rows2
  exact ⟨⟨a, c, rfl, hr⟩, k.below⟩

section
variable {H : Type} {enc : TypeId × Value → H} {w : World} {base : Nat} {held : Bool}
end
end Go.Proofs.Ytpifgapogbbcnaa

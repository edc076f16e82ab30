/- A region that draws its order, walked once in the order of the text, over a class of worlds: its operations read, its callees may make memory. -/
import Derived.Test.YtgndekojodpmkaaDoorKa
import Derived.BigQuiet
namespace Go.Proofs.YtgndekojodpmkaaDoor
open Go.RowKit Go.Deep
set_option linter.unusedVariables false

theorem region_class {P : Program} {id : Nat} {Q : Exit → Act → World → Prop} {a : Act} {w : World} {l : List Oper} (C : World → Prop) (hm : P.follows .mixedOrders = true) (hB : Region.lexB .any l.toArray = true) (hC : C w.drew)
    (h : wpQuiet P l.toArray C (fun a' => ∀ w', C w' → Q .normal a' w') l a) : (Code.region id l.toArray true).wp P Q a w :=
  wp_region_quiet (C := C) hm hB hC (by simpa using h)
/-- The worlds behind a world, as the values of a function. -/
theorem class_of (w : World) : ∃ f : Option World → World, (∀ t, Below w.heap.size w (f t)) ∧ ∀ w', Below w.heap.size w w' → ∃ t, w' = f t := by
  classical
  refine ⟨fun t => match t with | some W => if Below w.heap.size w W then W else w | none => w, fun t => ?_, fun w' h => ⟨some w', by simp [h]⟩⟩
  cases t with
  | none => exact Below.refl _ _
  | some W => by_cases h : Below w.heap.size w W <;> simp [h]; exact Below.refl _ _
end Go.Proofs.YtgndekojodpmkaaDoor

/- The groups that are chosen, as lists: groupsWhere. -/
import Derived.Test.YtnebkhelobpkpaaDoorSw
namespace Go.Proofs.YtnebkhelobpkpaaDoor
open Go.RowKit Go.Deep Go.Shelf
set_option linter.unusedVariables false

theorem pickOf_pickN (p : Nat → Bool) (l : List G7) : (pickN p l).map listOf = pickOf p l := by simp [pickN, pickOf, Function.comp_def]
theorem pickN_small (p : Nat → Bool) (l : List G7) : ∀ x ∈ pickN p l, x < 128 := fun x hx => by
  simp only [pickN, List.mem_map] at hx
  obtain ⟨y, _, rfl⟩ := hx
  exact y.isLt

end Go.Proofs.YtnebkhelobpkpaaDoor

/- 'laws.FnExactValidShares': the plain statement. -/
import Derived.Test.YtgndekojodpmkaaDoorLvh1
import Derived.Test.YtgndekojodpmkaaDoorLvhC
namespace Go.Proofs.YtgndekojodpmkaaDoor
open Go.ChangeShapes Go.WideShapes Go.ChangeAt Go.RowKit Go.Deep
set_option linter.unusedVariables false
namespace ValidShares

theorem over : Rows.fnExactValidSharesRow.holds Tryd.pinned (OpenSpec.ofChange Rows.fnExactValidSharesSpec) :=
  OpenClaim.holds_of_wide 5 Tryd.f5 rfl rfl rfl rfl rfl rfl rfl ⟨rfl, rfl, rfl, rfl, rfl⟩ rfl rfl rfl rfl rfl (by kernel_rfl) Tryd.func5 closed
    (of_decide_eq_true (by kernel_rfl)) (by unfold Func.isWrapper; first | (rw [if_pos (by decide +kernel)]; kernel_rfl) | (rw [if_neg (by decide +kernel)]; exact ⟨rfl, rfl⟩))
    (fun os started H enc _ => lifted os started H enc)

theorem said : Rows.FnExactValidSharesSaid := over

end ValidShares
end Go.Proofs.YtgndekojodpmkaaDoor

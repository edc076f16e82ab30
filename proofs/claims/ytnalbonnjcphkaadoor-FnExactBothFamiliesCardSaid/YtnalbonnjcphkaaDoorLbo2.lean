/- 'laws.FnExactBothFamilies': the plain statement. -/
import Derived.Test.YtnalbonnjcphkaaDoorLbo1
import Derived.Test.YtnalbonnjcphkaaDoorLboC
namespace Go.Proofs.YtnalbonnjcphkaaDoor
open Go.ChangeShapes Go.WideShapes Go.ChangeAt Go.RowKit Go.Deep
set_option linter.unusedVariables false
namespace Both

theorem over : Rows.fnExactBothFamiliesRow.holds Tryd.pinned (OpenSpec.ofChange Rows.fnExactBothFamiliesSpec) :=
  OpenClaim.holds_of_wide 4 Tryd.f4 rfl rfl rfl rfl rfl rfl rfl ⟨rfl, rfl, rfl, rfl, rfl⟩ rfl rfl rfl rfl rfl (by kernel_rfl) Tryd.func4 closed
    (of_decide_eq_true (by kernel_rfl)) (by unfold Func.isWrapper; first | (rw [if_pos (by decide +kernel)]; kernel_rfl) | (rw [if_neg (by decide +kernel)]; exact ⟨rfl, rfl⟩))
    (fun os started H enc _ => lifted os started H enc)

theorem said : Rows.FnExactBothFamiliesSaid := over

end Both
end Go.Proofs.YtnalbonnjcphkaaDoor

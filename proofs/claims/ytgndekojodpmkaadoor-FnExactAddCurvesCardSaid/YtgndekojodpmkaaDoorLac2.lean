/- 'laws.FnExactAddCurves': the plain statement. -/
import Derived.Test.YtgndekojodpmkaaDoorLac1
import Derived.Test.YtgndekojodpmkaaDoorLacC
namespace Go.Proofs.YtgndekojodpmkaaDoor
open Go.ChangeShapes Go.WideShapes Go.ChangeAt Go.RowKit Go.Deep
set_option linter.unusedVariables false
namespace AddCurves

theorem over : Rows.fnExactAddCurvesRow.holds Tryd.pinned (OpenSpec.ofChange Rows.fnExactAddCurvesSpec) :=
  OpenClaim.holds_of_wide 6 Tryd.f6 rfl rfl rfl rfl rfl rfl rfl ⟨rfl, rfl, rfl, rfl, rfl⟩ rfl rfl rfl rfl rfl (by kernel_rfl) Tryd.func6 closed
    (of_decide_eq_true (by kernel_rfl)) (by unfold Func.isWrapper; first | (rw [if_pos (by decide +kernel)]; kernel_rfl) | (rw [if_neg (by decide +kernel)]; exact ⟨rfl, rfl⟩))
    (fun os started H enc _ => lifted os started H enc)

theorem said : Rows.FnExactAddCurvesSaid := over

end AddCurves
end Go.Proofs.YtgndekojodpmkaaDoor

/- 'laws.FnExactScaleCurve': the plain statement. -/
import Derived.Test.YtgndekojodpmkaaDoorLsc1
import Derived.Test.YtgndekojodpmkaaDoorLscC
namespace Go.Proofs.YtgndekojodpmkaaDoor
open Go.ChangeShapes Go.WideShapes Go.ChangeAt Go.RowKit Go.Deep
set_option linter.unusedVariables false
namespace ScaleCurve

theorem over : Rows.fnExactScaleCurveRow.holds Tryd.pinned (OpenSpec.ofChange Rows.fnExactScaleCurveSpec) :=
  OpenClaim.holds_of_wide 7 Tryd.f7 rfl rfl rfl rfl rfl rfl rfl ⟨rfl, rfl, rfl, rfl, rfl⟩ rfl rfl rfl rfl rfl (by kernel_rfl) Tryd.func7 closed
    (of_decide_eq_true (by kernel_rfl)) (by unfold Func.isWrapper; first | (rw [if_pos (by decide +kernel)]; kernel_rfl) | (rw [if_neg (by decide +kernel)]; exact ⟨rfl, rfl⟩))
    (fun os started H enc _ => lifted os started H enc)

theorem said : Rows.FnExactScaleCurveSaid := over

end ScaleCurve
end Go.Proofs.YtgndekojodpmkaaDoor

/- 'laws.FnExactCurveAt': the plain statement. -/
import Derived.Test.YtgndekojodpmkaaDoorLca1
import Derived.Test.YtgndekojodpmkaaDoorLcaC
namespace Go.Proofs.YtgndekojodpmkaaDoor
open Go.ChangeShapes Go.WideShapes Go.ChangeAt Go.RowKit Go.Deep
set_option linter.unusedVariables false
namespace CurveAt

theorem over : Rows.fnExactCurveAtRow.holds Tryd.pinned (OpenSpec.ofChange Rows.fnExactCurveAtSpec) :=
  OpenClaim.holds_of_wide 4 Tryd.f4 rfl rfl rfl rfl rfl rfl rfl ⟨rfl, rfl, rfl, rfl, rfl⟩ rfl rfl rfl rfl rfl (by kernel_rfl) Tryd.func4 closed
    (of_decide_eq_true (by kernel_rfl)) (by unfold Func.isWrapper; first | (rw [if_pos (by decide +kernel)]; kernel_rfl) | (rw [if_neg (by decide +kernel)]; exact ⟨rfl, rfl⟩))
    (fun os started H enc _ => lifted os started H enc)

theorem said : Rows.FnExactCurveAtSaid := over

end CurveAt
end Go.Proofs.YtgndekojodpmkaaDoor

/- 'laws.FnExactMayOpen': the plain statement. -/
import Derived.Test.YtpkflamhniidiaaDoorLmay1
import Derived.Test.YtpkflamhniidiaaDoorLmayC
namespace Go.Proofs.YtpkflamhniidiaaDoor
open Go.ChangeShapes Go.WideShapes Go.ChangeAt Go.RowKit Go.Deep
set_option linter.unusedVariables false
namespace LMay

theorem over : Rows.fnExactMayOpenRow.holds Tryd.pinned (OpenSpec.ofChange Rows.fnExactMayOpenSpec) :=
  OpenClaim.holds_of_wide 5 Tryd.f5 rfl rfl rfl rfl rfl rfl rfl ⟨rfl, rfl, rfl, rfl, rfl⟩ rfl rfl rfl rfl rfl (by kernel_rfl) Tryd.func5 closed
    (of_decide_eq_true (by kernel_rfl)) (by unfold Func.isWrapper; first | (rw [if_pos (by decide +kernel)]; kernel_rfl) | (rw [if_neg (by decide +kernel)]; exact ⟨rfl, rfl⟩))
    (fun os started H enc _ => lifted os started H enc)

theorem said : Rows.FnExactMayOpenSaid := over

end LMay
end Go.Proofs.YtpkflamhniidiaaDoor

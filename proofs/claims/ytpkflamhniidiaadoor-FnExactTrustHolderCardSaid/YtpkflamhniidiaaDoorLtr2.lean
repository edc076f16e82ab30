/- 'laws.FnExactTrustHolder': the plain statement. -/
import Derived.Test.YtpkflamhniidiaaDoorLtr1
import Derived.Test.YtpkflamhniidiaaDoorLtrC
namespace Go.Proofs.YtpkflamhniidiaaDoor
open Go.ChangeShapes Go.WideShapes Go.ChangeAt Go.RowKit Go.Deep
set_option linter.unusedVariables false
namespace LTr

theorem over : Rows.fnExactTrustHolderRow.holds Tryd.pinned (OpenSpec.ofChange Rows.fnExactTrustHolderSpec) :=
  OpenClaim.holds_of_wide 12 Tryd.f12 rfl rfl rfl rfl rfl rfl rfl ⟨rfl, rfl, rfl, rfl, rfl⟩ rfl rfl rfl rfl rfl (by kernel_rfl) Tryd.func12 closed
    (of_decide_eq_true (by kernel_rfl)) (by unfold Func.isWrapper; first | (rw [if_pos (by decide +kernel)]; kernel_rfl) | (rw [if_neg (by decide +kernel)]; exact ⟨rfl, rfl⟩))
    (fun os started H enc _ => lifted os started H enc)

theorem said : Rows.FnExactTrustHolderSaid := over

end LTr
end Go.Proofs.YtpkflamhniidiaaDoor

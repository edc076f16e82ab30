/- 'laws.FnExactWithoutHolder': the plain statement. -/
import Derived.Test.YtpkflamhniidiaaDoorLwo1
import Derived.Test.YtpkflamhniidiaaDoorLwoC
namespace Go.Proofs.YtpkflamhniidiaaDoor
open Go.ChangeShapes Go.WideShapes Go.ChangeAt Go.RowKit Go.Deep
set_option linter.unusedVariables false
namespace LWo

theorem over : Rows.fnExactWithoutHolderRow.holds Tryd.pinned (OpenSpec.ofChange Rows.fnExactWithoutHolderSpec) :=
  OpenClaim.holds_of_wide 11 Tryd.f11 rfl rfl rfl rfl rfl rfl rfl ⟨rfl, rfl, rfl, rfl, rfl⟩ rfl rfl rfl rfl rfl (by kernel_rfl) Tryd.func11 closed
    (of_decide_eq_true (by kernel_rfl)) (by unfold Func.isWrapper; first | (rw [if_pos (by decide +kernel)]; kernel_rfl) | (rw [if_neg (by decide +kernel)]; exact ⟨rfl, rfl⟩))
    (fun os started H enc _ => lifted os started H enc)

theorem said : Rows.FnExactWithoutHolderSaid := over

end LWo
end Go.Proofs.YtpkflamhniidiaaDoor

/- 'laws.FnExactDualFamily': the plain statement. -/
import Derived.Test.YtpkflamhniidiaaDoorLdual1
import Derived.Test.YtpkflamhniidiaaDoorLdualC
namespace Go.Proofs.YtpkflamhniidiaaDoor
open Go.ChangeShapes Go.WideShapes Go.ChangeAt Go.RowKit Go.Deep
set_option linter.unusedVariables false
namespace LDual

theorem over : Rows.fnExactDualFamilyRow.holds Tryd.pinned (OpenSpec.ofChange Rows.fnExactDualFamilySpec) :=
  OpenClaim.holds_of_wide 8 Tryd.f8 rfl rfl rfl rfl rfl rfl rfl ⟨rfl, rfl, rfl, rfl, rfl⟩ rfl rfl rfl rfl rfl (by kernel_rfl) Tryd.func8 closed
    (of_decide_eq_true (by kernel_rfl)) (by unfold Func.isWrapper; first | (rw [if_pos (by decide +kernel)]; kernel_rfl) | (rw [if_neg (by decide +kernel)]; exact ⟨rfl, rfl⟩))
    (fun os started H enc _ => lifted os started H enc)

theorem said : Rows.FnExactDualFamilySaid := over

end LDual
end Go.Proofs.YtpkflamhniidiaaDoor

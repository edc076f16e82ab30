/- 'laws.FnExactSwingsOf': the plain statement. -/
import Derived.Test.YtpkflamhniidiaaDoorLsw1
import Derived.Test.YtpkflamhniidiaaDoorLswC
namespace Go.Proofs.YtpkflamhniidiaaDoor
open Go.ChangeShapes Go.WideShapes Go.ChangeAt Go.RowKit Go.Deep
set_option linter.unusedVariables false
namespace LSw

theorem over : Rows.fnExactSwingsOfRow.holds Tryd.pinned (OpenSpec.ofChange Rows.fnExactSwingsOfSpec) :=
  OpenClaim.holds_of_wide 17 Tryd.f17 rfl rfl rfl rfl rfl rfl rfl ⟨rfl, rfl, rfl, rfl, rfl⟩ rfl rfl rfl rfl rfl (by kernel_rfl) Tryd.func17 closed
    (of_decide_eq_true (by kernel_rfl)) (by unfold Func.isWrapper; first | (rw [if_pos (by decide +kernel)]; kernel_rfl) | (rw [if_neg (by decide +kernel)]; exact ⟨rfl, rfl⟩))
    (fun os started H enc _ => lifted os started H enc)

theorem said : Rows.FnExactSwingsOfSaid := over

end LSw
end Go.Proofs.YtpkflamhniidiaaDoor

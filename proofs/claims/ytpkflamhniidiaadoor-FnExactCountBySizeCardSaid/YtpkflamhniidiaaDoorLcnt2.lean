/- 'laws.FnExactCountBySize': the plain statement. -/
import Derived.Test.YtpkflamhniidiaaDoorLcnt1
import Derived.Test.YtpkflamhniidiaaDoorLcntC
namespace Go.Proofs.YtpkflamhniidiaaDoor
open Go.ChangeShapes Go.WideShapes Go.ChangeAt Go.RowKit Go.Deep
set_option linter.unusedVariables false
namespace LCnt

theorem over : Rows.fnExactCountBySizeRow.holds Tryd.pinned (OpenSpec.ofChange Rows.fnExactCountBySizeSpec) :=
  OpenClaim.holds_of_wide 16 Tryd.f16 rfl rfl rfl rfl rfl rfl rfl ⟨rfl, rfl, rfl, rfl, rfl⟩ rfl rfl rfl rfl rfl (by kernel_rfl) Tryd.func16 closed
    (of_decide_eq_true (by kernel_rfl)) (by unfold Func.isWrapper; first | (rw [if_pos (by decide +kernel)]; kernel_rfl) | (rw [if_neg (by decide +kernel)]; exact ⟨rfl, rfl⟩))
    (fun os started H enc _ => lifted os started H enc)

theorem said : Rows.FnExactCountBySizeSaid := over

end LCnt
end Go.Proofs.YtpkflamhniidiaaDoor

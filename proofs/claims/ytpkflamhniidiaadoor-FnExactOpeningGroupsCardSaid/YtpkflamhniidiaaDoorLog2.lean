/- 'laws.FnExactOpeningGroups': the plain statement. -/
import Derived.Test.YtpkflamhniidiaaDoorLog1
import Derived.Test.YtpkflamhniidiaaDoorLogC
namespace Go.Proofs.YtpkflamhniidiaaDoor
open Go.ChangeShapes Go.WideShapes Go.ChangeAt Go.RowKit Go.Deep
set_option linter.unusedVariables false
namespace LOg

theorem over : Rows.fnExactOpeningGroupsRow.holds Tryd.pinned (OpenSpec.ofChange Rows.fnExactOpeningGroupsSpec) :=
  OpenClaim.holds_of_wide 6 Tryd.f6 rfl rfl rfl rfl rfl rfl rfl ⟨rfl, rfl, rfl, rfl, rfl⟩ rfl rfl rfl rfl rfl (by kernel_rfl) Tryd.func6 closed
    (of_decide_eq_true (by kernel_rfl)) (by unfold Func.isWrapper; first | (rw [if_pos (by decide +kernel)]; kernel_rfl) | (rw [if_neg (by decide +kernel)]; exact ⟨rfl, rfl⟩))
    (fun os started H enc _ => lifted os started H enc)

theorem said : Rows.FnExactOpeningGroupsSaid := over

end LOg
end Go.Proofs.YtpkflamhniidiaaDoor

/- 'laws.FnExactSchemeText': the plain statement. -/
import Derived.Test.YtedjildahjefkaaDoorLst1
import Derived.Test.YtedjildahjefkaaDoorLstC
namespace Go.Proofs.YtedjildahjefkaaDoor
open Go.ChangeShapes Go.WideShapes Go.ChangeAt Go.RowKit Go.Deep
set_option linter.unusedVariables false
namespace SchemeText

theorem over : Rows.fnExactSchemeTextRow.holds Tryd.pinned (OpenSpec.ofChange Rows.fnExactSchemeTextSpec) :=
  OpenClaim.holds_of_wide 4 Tryd.f4 rfl rfl rfl rfl rfl rfl rfl ⟨rfl, rfl, rfl, rfl, rfl⟩ rfl rfl rfl rfl rfl (by kernel_rfl) Tryd.func4 closed
    (of_decide_eq_true (by kernel_rfl)) (by unfold Func.isWrapper; first | (rw [if_pos (by decide +kernel)]; kernel_rfl) | (rw [if_neg (by decide +kernel)]; exact ⟨rfl, rfl⟩))
    (fun os started H enc _ => lifted os started H enc)

theorem said : Rows.FnExactSchemeTextSaid := over

end SchemeText
end Go.Proofs.YtedjildahjefkaaDoor

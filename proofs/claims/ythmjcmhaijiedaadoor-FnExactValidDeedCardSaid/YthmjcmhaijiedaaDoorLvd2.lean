/- 'laws.FnExactValidDeed': the plain statement. -/
import Derived.Test.YthmjcmhaijiedaaDoorLvd1
import Derived.Test.YthmjcmhaijiedaaDoorLvdC
namespace Go.Proofs.YthmjcmhaijiedaaDoor
open Go.ChangeShapes Go.WideShapes Go.ChangeAt Go.RowKit Go.Deep
set_option linter.unusedVariables false
namespace Vdd

theorem over : Rows.fnExactValidDeedRow.holds Tryd.pinned (OpenSpec.ofChange Rows.fnExactValidDeedSpec) :=
  OpenClaim.holds_of_wide 5 Tryd.f5 rfl rfl rfl rfl rfl rfl rfl ⟨rfl, rfl, rfl, rfl, rfl⟩ rfl rfl rfl rfl rfl (by kernel_rfl) Tryd.func5 closed
    (of_decide_eq_true (by kernel_rfl)) (by unfold Func.isWrapper; first | (rw [if_pos (by decide +kernel)]; kernel_rfl) | (rw [if_neg (by decide +kernel)]; exact ⟨rfl, rfl⟩))
    (fun os started H enc _ => lifted os started H enc)

theorem said : Rows.FnExactValidDeedSaid := over

end Vdd
end Go.Proofs.YthmjcmhaijiedaaDoor

/- 'laws.FnOpens': the plain statement. -/
import Derived.Test.YteifllengcacbaaDoorKop1
import Derived.Test.YteifllengcacbaaDoorKopC
namespace Go.Proofs.YteifllengcacbaaDoor
open Go.ChangeShapes Go.WideShapes Go.ChangeAt Go.RowKit Go.Deep
set_option linter.unusedVariables false
namespace Opens

theorem over : Rows.fnOpensRow.holds Tryd.pinned (OpenSpec.ofChange Rows.fnOpensSpec) :=
  OpenClaim.holds_of_wide 3 Tryd.f3 rfl rfl rfl rfl rfl rfl rfl ⟨rfl, rfl, rfl, rfl, rfl⟩ rfl rfl rfl rfl rfl (by kernel_rfl) Tryd.func3 closed
    (of_decide_eq_true (by kernel_rfl)) (by unfold Func.isWrapper; first | (rw [if_pos (by decide +kernel)]; kernel_rfl) | (rw [if_neg (by decide +kernel)]; exact ⟨rfl, rfl⟩))
    (fun os started H enc _ => lifted os started H enc)

theorem said : Rows.FnOpensSaid := over

end Opens
end Go.Proofs.YteifllengcacbaaDoor

/- 'laws.FnExactDealShares': the plain statement. -/
import Derived.Test.YtgndekojodpmkaaDoorLds1
import Derived.Test.YtgndekojodpmkaaDoorLdsC
namespace Go.Proofs.YtgndekojodpmkaaDoor
open Go.ChangeShapes Go.WideShapes Go.ChangeAt Go.RowKit Go.Deep
set_option linter.unusedVariables false
namespace DealShares

theorem over : Rows.fnExactDealSharesRow.holds Tryd.pinned (OpenSpec.ofChange Rows.fnExactDealSharesSpec) :=
  OpenClaim.holds_of_wide 8 Tryd.f8 rfl rfl rfl rfl rfl rfl rfl ⟨rfl, rfl, rfl, rfl, rfl⟩ rfl rfl rfl rfl rfl (by kernel_rfl) Tryd.func8 closed
    (of_decide_eq_true (by kernel_rfl)) (by unfold Func.isWrapper; first | (rw [if_pos (by decide +kernel)]; kernel_rfl) | (rw [if_neg (by decide +kernel)]; exact ⟨rfl, rfl⟩))
    (fun os started H enc _ => lifted os started H enc)

theorem said : Rows.FnExactDealSharesSaid := over

end DealShares
end Go.Proofs.YtgndekojodpmkaaDoor

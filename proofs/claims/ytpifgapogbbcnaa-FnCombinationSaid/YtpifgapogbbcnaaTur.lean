/- l03Turned of the model. -/
import Derived.Test.YtpifgapogbbcnaaCp3
import Derived.Test.YtpifgapogbbcnaaTri
namespace Go.Proofs.Ytpifgapogbbcnaa
open Go.RowKit Go.Deep
set_option linter.unusedVariables false

/-- The column k of the first i rows. -/
def colOf (z : List (List Int)) (k i : Nat) : List Int := (List.range i).map fun r => nth (nthL z r) k
theorem colOf_len (z : List (List Int)) (k i : Nat) : (colOf z k i).length = i := by simp [colOf]
theorem colOf_snoc (z : List (List Int)) (k i : Nat) : colOf z k (i + 1) = colOf z k i ++ [nth (nthL z i) k] := by simp [colOf, List.range_succ]
theorem turned_take (z : List (List Int)) (cn k : Nat) (h : k < cn) : (turned z cn).take (k + 1) = (turned z cn).take k ++ [colOf z k z.length] := by
  rw [take_snoc _ (by rw [turned_len]; exact h)]
  unfold turned colOf
  rw [tab_row _ _ _ h]

end Go.Proofs.Ytpifgapogbbcnaa

/- The model's l01Table. -/
import Derived.Test.YtnebkhelobpkpaaDoorWts
import Derived.Test.YtnebkhelobpkpaaDoorNt
namespace Go.Proofs.YtnebkhelobpkpaaDoor
open Go.RowKit Go.Deep Go.Shelf
set_option linter.unusedVariables false

/-- One of the first groups is within x. -/
def tblAt (zss : List (List Int)) (k x : Nat) : Bool := anyIn (bitsUpTo zss k) x
theorem tblAt_zero (zss : List (List Int)) (x : Nat) : tblAt zss 0 x = false := by simp [tblAt, anyIn, bitsUpTo]
theorem tblAt_succ (zss : List (List Int)) (k x : Nat) : tblAt zss (k + 1) x = (tblAt zss k x || (bitsOf (nthL zss k) &&& x == bitsOf (nthL zss k))) := by
  simp [tblAt, anyIn, bitsUpTo, List.range_succ]
theorem tblAt_more {zss : List (List Int)} {k x : Nat} (h : tblAt zss k x = true) : ∀ n, tblAt zss (k + n) x = true
  | 0 => h
  | n + 1 => by rw [← Nat.add_assoc, tblAt_succ, tblAt_more h n]; rfl

end Go.Proofs.YtnebkhelobpkpaaDoor

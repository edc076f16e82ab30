/- DualFamily, the model's and the program's. -/
import Derived.Test.YtnalbonnjcphkaaDoorTbl
import Derived.Test.YtnalbonnjcphkaaDoorTof
import Derived.Test.YtnalbonnjcphkaaDoorFw
namespace Go.Proofs.YtnalbonnjcphkaaDoor
open Go.RowKit Go.Deep Go.Shelf
set_option linter.unusedVariables false

/-- All others of so many. -/
def offIn (m x : Nat) : Nat := (2 ^ m - 1) &&& (127 - x)
theorem off_fact : ∀ m : Nat, m ≤ 7 → ∀ x : Nat, x < 128 → bits BinOp.andNot IntKind.u64 ((2 ^ m - 1 : Nat) : Int) (x : Int) = (offIn m x : Nat) := by decide +kernel
theorem off_sub : ∀ m : Nat, m ≤ 7 → ∀ x : Nat, x < 128 → x < 2 ^ m → offIn m x = 2 ^ m - 1 - x := by decide +kernel
theorem off_lt {m : Nat} (x : Nat) (hm : m ≤ 7) : offIn m x < 128 := by
  have : (2 : Nat) ^ m ≤ 2 ^ 7 := Nat.pow_le_pow_right (by decide) hm
  have h1 : (2 : Nat) ^ m - 1 < 128 := by omega
  exact Nat.lt_of_le_of_lt Nat.and_le_left h1
theorem mask_all : ∀ n : Nat, n ≤ 7 → IntKind.u64.wrap (IntKind.u64.wrap ((2 : Int) ^ n) - 1) = ((2 ^ n - 1 : Nat) : Int) := by decide +kernel
set_option maxRecDepth 100000 in
theorem allH_any (h M : Nat) (w : World) (h2 : h ≤ 7) (hM : 2 ^ h - 1 = M) : Calls Tryd.prog 53 #[.int .i64 (h : Nat)] w fun e w' => e = .returned (.int .u64 (M : Int)) ∧ w = w' := by
  have hm := Lib.hid (mask_all h h2)
  have HM := Lib.hid hM
  clear hM
  go_enter Tryd.func53, Tryd.ntmps53
  go_wp2
  go_ret
  refine ⟨?_, rfl⟩
  rw [← HM.out, ← hm.out]
  rfl

/-- The groups that the dual opens. -/
def dualB (m : Nat) (zss : List (List Int)) (x : Nat) : Bool := !tblAt zss zss.length (2 ^ m - 1 - x)
noncomputable def dualOf (h : Int) (zss : List (List Int)) : FR := if tell (FamOk h zss) = true then ⟨h, famOf h.toNat (dualB h.toNat zss), 0⟩ else noFam 1
theorem dualOf_yes {m : Nat} {zss : List (List Int)} (k : FamOk (m : Int) zss) : dualOf (m : Int) zss = ⟨(m : Nat), famOf m (dualB m zss), 0⟩ := by rw [dualOf, if_pos (tell_true k), Int.toNat_natCast]
theorem dualOf_no {h : Int} {zss : List (List Int)} (k : ¬ FamOk h zss) : dualOf h zss = noFam 1 := by rw [dualOf, if_neg (by rw [tell_false k]; simp)]

end Go.Proofs.YtnalbonnjcphkaaDoor

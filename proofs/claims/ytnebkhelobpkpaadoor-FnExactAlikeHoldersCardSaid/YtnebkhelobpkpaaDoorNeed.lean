/- The contracts of NeededHolders and VetoHolders, the model's and the program's. -/
import Derived.Test.YtnebkhelobpkpaaDoorOwn
namespace Go.Proofs.YtnebkhelobpkpaaDoor
open Go.RowKit Go.Deep
set_option linter.unusedVariables false

def orTo (zss : List (List Int)) : Nat → Nat
  | 0 => 0
  | k + 1 => orTo zss k ||| bitsOf (nthL zss k)
def andTo (h : Int) (zss : List (List Int)) : Nat → Nat
  | 0 => 2 ^ h.toNat - 1
  | k + 1 => andTo h zss k &&& bitsOf (nthL zss k)
theorem orTo_lt {h : Int} {zss : List (List Int)} (hg : AllGrp h zss) (hh : h ≤ 7) : ∀ k, k ≤ zss.length → orTo zss k < 128
  | 0, _ => by simp [orTo]
  | k + 1, hk => Nat.or_lt_two_pow (n := 7) (orTo_lt hg hh k (by omega)) (bitsOf_lt (hg k (by omega)).1 hh)
theorem andTo_lt {h : Int} {zss : List (List Int)} (h0 : 1 ≤ h) (hh : h ≤ 7) : ∀ k, andTo h zss k < 128
  | 0 => by
    have : (2 : Nat) ^ h.toNat ≤ 2 ^ 7 := Nat.pow_le_pow_right (by omega) (by omega)
    show 2 ^ h.toNat - 1 < 128
    omega
  | k + 1 => Nat.lt_of_le_of_lt Nat.and_le_left (andTo_lt h0 hh k)

noncomputable def needOf (h : Int) (zss : List (List Int)) : List Int := if tell (FamOk h zss) = true then listOf (orTo zss zss.length) else []
noncomputable def vetoOf (h : Int) (zss : List (List Int)) : List Int := if tell (FamOk h zss) = true then listOf (andTo h zss zss.length) else []
noncomputable def okCode (h : Int) (zss : List (List Int)) : Int := if tell (FamOk h zss) = true then 0 else 1

theorem needOf_len (h : Int) (zss : List (List Int)) : (needOf h zss).length ≤ 1048576 := by
  unfold needOf
  split
  · exact Nat.le_trans (listTo_len _ 7) (by omega)
  · simp
theorem vetoOf_len (h : Int) (zss : List (List Int)) : (vetoOf h zss).length ≤ 1048576 := by
  unfold vetoOf
  split
  · exact Nat.le_trans (listTo_len _ 7) (by omega)
  · simp

end Go.Proofs.YtnebkhelobpkpaaDoor

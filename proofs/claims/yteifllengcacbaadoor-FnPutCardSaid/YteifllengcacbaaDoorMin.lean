/- The model's l01Minor. -/
import Derived.Test.YteifllengcacbaaDoorDual
import Derived.Test.YteifllengcacbaaDoorFwC
namespace Go.Proofs.YteifllengcacbaaDoor
open Go.RowKit Go.Deep Go.Shelf
set_option linter.unusedVariables false

def lowN (k x : Nat) : Nat := x &&& (2 ^ k - 1)
def highN (k x : Nat) : Nat := x - lowN k x
/-- The group with room for a holder. -/
def wideN (k x : Nat) : Nat := lowN k x ||| (highN k x * 2)
def minN (tr : Bool) (k x : Nat) : Nat := if tr = true then wideN k x ||| 2 ^ k else wideN k x
theorem mask_i : ∀ n : Nat, n < 7 → wrap64 (wrap64 ((2 : Int) ^ n) - 1) = ((2 ^ n - 1 : Nat) : Int) := by decide +kernel
theorem min_f1 : ∀ k : Nat, k < 7 → ∀ x : Nat, x < 64 → bits BinOp.and IntKind.i64 (x : Int) ((2 ^ k - 1 : Nat) : Int) = (lowN k x : Nat) := by decide +kernel
theorem min_f2 : ∀ k : Nat, k < 7 → ∀ x : Nat, x < 64 → bits BinOp.andNot IntKind.i64 (x : Int) ((2 ^ k - 1 : Nat) : Int) = (highN k x : Nat) := by decide +kernel
theorem min_f3 : ∀ k : Nat, k < 7 → ∀ x : Nat, x < 64 → bits BinOp.or IntKind.i64 ((lowN k x : Nat) : Int) (((highN k x : Nat) : Int) * 2) = (wideN k x : Nat) := by decide +kernel
theorem min_f4 : ∀ k : Nat, k < 7 → ∀ x : Nat, x < 64 → bits BinOp.or IntKind.i64 ((wideN k x : Nat) : Int) (wrap64 ((2 : Int) ^ k)) = (wideN k x ||| 2 ^ k : Nat) := by decide +kernel
theorem high_lt : ∀ k : Nat, k < 7 → ∀ x : Nat, x < 64 → highN k x < 64 := by decide +kernel
theorem wide_lt : ∀ m : Nat, m ≤ 7 → ∀ k : Nat, k < m → ∀ x : Nat, x < 64 → x < 2 ^ (m - 1) → wideN k x < 2 ^ m := by decide +kernel
theorem minN_lt {m k x : Nat} (tr : Bool) (hm : m ≤ 7) (hk : k < m) (hx : x < 2 ^ (m - 1)) : minN tr k x < 2 ^ m := by
  have h64 : x < 64 := Nat.lt_of_lt_of_le hx (Nat.pow_le_pow_right (by decide) (by omega) : 2 ^ (m - 1) ≤ 2 ^ 6)
  have h1 := wide_lt m hm k hk x h64 hx
  unfold minN
  split
  · exact Nat.or_lt_two_pow h1 (Nat.pow_lt_pow_right (by omega) hk)
  · exact h1
def minB (tr : Bool) (k : Nat) (zss : List (List Int)) (x : Nat) : Bool := tblAt zss zss.length (minN tr k x)
noncomputable def minOf (tr : Bool) (h : Int) (zss : List (List Int)) (k : Int) : FR :=
  if tell (FamOk h zss) = true then (if 0 ≤ k ∧ k < h then (if h = 1 then noFam 4 else ⟨h - 1, famOf (h.toNat - 1) (minB tr k.toNat zss), 0⟩) else noFam 2) else noFam 1
theorem min_small (tr : Bool) (h : Int) (zss : List (List Int)) (k : Int) : Small2 (minOf tr h zss k).zss := by
  have hn : ∀ c, Small2 (noFam c).zss := fun c => lens_small (by simp [noFam]) (by simp [noFam])
  unfold minOf
  split
  · rename_i q
    have := (of_tell q).1
    split
    · split
      · exact hn _
      · exact famOf_small (by omega) _
    · exact hn _
  · exact hn _
theorem min_bad {tr : Bool} {h : Int} {zss : List (List Int)} {k : Int} (q : ¬ FamOk h zss) : minOf tr h zss k = noFam 1 := by rw [minOf, if_neg (by rw [tell_false q]; simp)]
theorem min_out {tr : Bool} {h : Int} {zss : List (List Int)} {k : Int} (q : FamOk h zss) (r : ¬ (0 ≤ k ∧ k < h)) : minOf tr h zss k = noFam 2 := by rw [minOf, if_pos (tell_true q), if_neg r]
theorem min_one {tr : Bool} {h : Int} {zss : List (List Int)} {k : Int} (q : FamOk h zss) (r : 0 ≤ k ∧ k < h) (o : h = 1) : minOf tr h zss k = noFam 4 := by rw [minOf, if_pos (tell_true q), if_pos r, if_pos o]
theorem min_in {tr : Bool} {m j : Nat} {zss : List (List Int)} (q : FamOk (m : Int) zss) (r : j < m) (o : m ≠ 1) : minOf tr (m : Int) zss (j : Int) = ⟨(m : Int) - 1, famOf (m - 1) (minB tr j zss), 0⟩ := by
  rw [minOf, if_pos (tell_true q), if_pos ⟨by omega, by omega⟩, if_neg (by omega), Int.toNat_natCast, Int.toNat_natCast]


end Go.Proofs.YteifllengcacbaaDoor

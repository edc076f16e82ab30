/- PutFamily, the model's. -/
import Derived.Test.YteifllengcacbaaDoorMin
namespace Go.Proofs.YteifllengcacbaaDoor
open Go.RowKit Go.Deep Go.Shelf
set_option linter.unusedVariables false

theorem put_f1 : ∀ k : Nat, k < 7 → ∀ x : Nat, x < 128 → bits BinOp.and IntKind.i64 (x : Int) ((2 ^ k - 1 : Nat) : Int) = (lowN k x : Nat) := by decide +kernel
theorem low_lt : ∀ k : Nat, k < 7 → ∀ x : Nat, x < 128 → lowN k x < 2 ^ k := by decide +kernel
/-- What opens with a family in place of a holder. -/
def putN (j k : Nat) (z2 : List (List Int)) (x : Nat) : Nat := minN (tblAt z2 z2.length (x / 2 ^ k)) j (lowN k x)
def putB (j k : Nat) (z1 z2 : List (List Int)) (x : Nat) : Bool := tblAt z1 z1.length (putN j k z2 x)
theorem putN_lt {j k : Nat} (z2 : List (List Int)) {x : Nat} (hk : k < 7) (hj : j ≤ k) (hx : x < 128) : putN j k z2 x < 2 ^ (k + 1) :=
  minN_lt _ (by omega) (by omega) (by rw [Nat.add_sub_cancel]; exact low_lt k hk x hx)
noncomputable def putOf (h1 : Int) (z1 : List (List Int)) (j : Int) (h2 : Int) (z2 : List (List Int)) : FR :=
  if tell (FamOk h1 z1 ∧ FamOk h2 z2) = true then (if 0 ≤ j ∧ j < h1 then (if h1 - 1 + h2 ≤ 7 then ⟨h1 - 1 + h2, famOf (h1 - 1 + h2).toNat (putB j.toNat (h1 - 1).toNat z1 z2), 0⟩ else noFam 3) else noFam 2) else noFam 1
theorem put_bad {h1 : Int} {z1 : List (List Int)} {j : Int} {h2 : Int} {z2 : List (List Int)} (k : ¬ (FamOk h1 z1 ∧ FamOk h2 z2)) : putOf h1 z1 j h2 z2 = noFam 1 := by rw [putOf, if_neg (by rw [tell_false k]; simp)]
theorem put_out {h1 : Int} {z1 : List (List Int)} {j : Int} {h2 : Int} {z2 : List (List Int)} (k : FamOk h1 z1 ∧ FamOk h2 z2) (r : ¬ (0 ≤ j ∧ j < h1)) : putOf h1 z1 j h2 z2 = noFam 2 := by rw [putOf, if_pos (tell_true k), if_neg r]
theorem put_much {h1 : Int} {z1 : List (List Int)} {j : Int} {h2 : Int} {z2 : List (List Int)} (k : FamOk h1 z1 ∧ FamOk h2 z2) (r : 0 ≤ j ∧ j < h1) (q : ¬ h1 - 1 + h2 ≤ 7) : putOf h1 z1 j h2 z2 = noFam 3 := by rw [putOf, if_pos (tell_true k), if_pos r, if_neg q]
theorem put_yes {h1 : Int} {z1 : List (List Int)} {i k t : Nat} {h2 : Int} {z2 : List (List Int)} (f : FamOk h1 z1 ∧ FamOk h2 z2) (r : (i : Int) < h1) (hk : h1 - 1 = (k : Int)) (ht : (k : Int) + h2 = (t : Int)) (q : t ≤ 7) :
    putOf h1 z1 (i : Int) h2 z2 = ⟨(t : Int), famOf t (putB i k z1 z2), 0⟩ := by
  rw [putOf, if_pos (tell_true f), if_pos ⟨by omega, r⟩, hk, ht, if_pos (by omega), Int.toNat_natCast, Int.toNat_natCast, Int.toNat_natCast]
theorem put_small (h1 : Int) (z1 : List (List Int)) (j : Int) (h2 : Int) (z2 : List (List Int)) : Small2 (putOf h1 z1 j h2 z2).zss := by
  have hn : ∀ c, Small2 (noFam c).zss := fun c => lens_small (by simp [noFam]) (by simp [noFam])
  unfold putOf
  split
  · rename_i q
    have := (of_tell q).1.1
    have := (of_tell q).2.1
    split
    · split
      · exact famOf_small (by omega) _
      · exact hn _
    · exact hn _
  · exact hn _

end Go.Proofs.YteifllengcacbaaDoor

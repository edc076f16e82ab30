/- EitherFamily and BothFamilies, the model's: l01Pair. -/
import Derived.Test.YteifllengcacbaaDoorTbl
import Derived.Test.YteifllengcacbaaDoorTw2
import Derived.Test.YteifllengcacbaaDoorFw
namespace Go.Proofs.YteifllengcacbaaDoor
open Go.RowKit Go.Deep Go.Shelf
set_option linter.unusedVariables false

/-- What opens both, or one of two. -/
def pairB (both : Bool) (z1 z2 : List (List Int)) (x : Nat) : Bool := cond both (tblAt z1 z1.length x && tblAt z2 z2.length x) (tblAt z1 z1.length x || tblAt z2 z2.length x)
theorem pairB_at {both : Bool} {z1 z2 : List (List Int)} {x : Nat} {p q : Bool} (hp : tblAt z1 z1.length x = p) (hq : tblAt z2 z2.length x = q) : pairB both z1 z2 x = cond both (p && q) (p || q) := by rw [pairB, hp, hq]
noncomputable def pairOf (both : Bool) (h1 : Int) (z1 : List (List Int)) (h2 : Int) (z2 : List (List Int)) : FR :=
  if tell (FamOk h1 z1 ∧ FamOk h2 z2) = true then (if h1 = h2 then ⟨h1, famOf h1.toNat (pairB both z1 z2), 0⟩ else noFam 2) else noFam 1
theorem pairOf_yes {both : Bool} {m : Nat} {z1 z2 : List (List Int)} (k1 : FamOk (m : Int) z1) (k2 : FamOk (m : Int) z2) : pairOf both (m : Int) z1 (m : Int) z2 = ⟨(m : Nat), famOf m (pairB both z1 z2), 0⟩ := by rw [pairOf, if_pos (tell_true ⟨k1, k2⟩), if_pos rfl, Int.toNat_natCast]
theorem pairOf_range {both : Bool} {h1 h2 : Int} {z1 z2 : List (List Int)} (k1 : FamOk h1 z1) (k2 : FamOk h2 z2) (hne : h1 ≠ h2) : pairOf both h1 z1 h2 z2 = noFam 2 := by rw [pairOf, if_pos (tell_true ⟨k1, k2⟩), if_neg hne]
theorem pairOf_bad {both : Bool} {h1 h2 : Int} {z1 z2 : List (List Int)} (k : ¬ (FamOk h1 z1 ∧ FamOk h2 z2)) : pairOf both h1 z1 h2 z2 = noFam 1 := by rw [pairOf, if_neg (by rw [tell_false k]; simp)]
theorem pair_small (both : Bool) (h1 : Int) (z1 : List (List Int)) (h2 : Int) (z2 : List (List Int)) : Small2 (pairOf both h1 z1 h2 z2).zss := by
  unfold pairOf
  split
  · rename_i k
    have := (of_tell k).1.1
    split
    · exact famOf_small (by omega) _
    · exact lens_small (by simp [noFam]) (by simp [noFam])
  · exact lens_small (by simp [noFam]) (by simp [noFam])

end Go.Proofs.YteifllengcacbaaDoor

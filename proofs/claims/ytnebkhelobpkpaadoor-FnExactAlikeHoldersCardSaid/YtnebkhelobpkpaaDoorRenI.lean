/- RenameHolders, the program's. -/
import Derived.Test.YtnebkhelobpkpaaDoorOrd
namespace Go.Proofs.YtnebkhelobpkpaaDoor
open Go.RowKit Go.Deep Go.Shelf
set_option linter.unusedVariables false

/-- What opens for the renamed. -/
def renB (zs : List Int) (zss : List (List Int)) (m y : Nat) : Bool := anyIn (bitsUpTo zss zss.length) (psiN (oOf zs) y m)
noncomputable def renOf (h : Int) (zss : List (List Int)) (zs : List Int) : FR :=
  if tell (FamOk h zss) = true then (if tell (OrdOk h zs) = true then ⟨h, famOf h.toNat (renB zs zss h.toNat), 0⟩ else noFam 2) else noFam 1
theorem ren_bad {h : Int} {zss : List (List Int)} {zs : List Int} (k : ¬ FamOk h zss) : renOf h zss zs = noFam 1 := by rw [renOf, if_neg (by rw [tell_false k]; simp)]
theorem ren_out {h : Int} {zss : List (List Int)} {zs : List Int} (k : FamOk h zss) (o : ¬ OrdOk h zs) : renOf h zss zs = noFam 2 := by rw [renOf, if_pos (tell_true k), if_neg (by rw [tell_false o]; simp)]
theorem ren_yes {m : Nat} {zss : List (List Int)} {zs : List Int} (k : FamOk (m : Int) zss) (o : OrdOk (m : Int) zs) : renOf (m : Int) zss zs = ⟨(m : Nat), famOf m (renB zs zss m), 0⟩ := by rw [renOf, if_pos (tell_true k), if_pos (tell_true o), Int.toNat_natCast]
theorem ren_small (h : Int) (zss : List (List Int)) (zs : List Int) : Small2 (renOf h zss zs).zss := by
  unfold renOf
  split
  · rename_i k
    have := (of_tell k).1
    split
    · exact famOf_small (by omega) _
    · exact lens_small (by simp [noFam]) (by simp [noFam])
  · exact lens_small (by simp [noFam]) (by simp [noFam])
theorem ren_bounds {m : Nat} {zs : List Int} (h7 : m ≤ 7) (o : OrdOk (m : Int) zs) : zs.length = m ∧ ∀ i, i < zs.length → 0 ≤ nth zs i ∧ nth zs i ≤ 6 :=
  ⟨by have := o.1; omega, fun i hi => by have := o.2.1 i hi; omega⟩

end Go.Proofs.YtnebkhelobpkpaaDoor

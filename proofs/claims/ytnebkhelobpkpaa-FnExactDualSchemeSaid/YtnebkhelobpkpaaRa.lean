/- RowsAt of the program. -/
import Derived.Test.YtnebkhelobpkpaaGm
import Derived.Deep.AppendLies
import Derived.Deep.RegionLaw
import Derived.Deep.DrawnRows
namespace Go.Proofs.Ytnebkhelobpkpaa
open Go.RowKit Go.Deep
set_option linter.unusedVariables false
attribute [local go_sem ↓] Go.wp_at_zero Go.wp_at_succ

/-- Indices of rows. -/
def RowsIn (z : List (List Int)) (rs : List Int) : Prop := rs.length ≤ 20 ∧ ∀ i, i < rs.length → 0 ≤ nth rs i ∧ nth rs i < z.length
def rowsOf (z : List (List Int)) (rs : List Int) : List (List Int) := rs.map fun r => nthL z r.toNat
theorem rowsOf_len (z : List (List Int)) (rs : List Int) : (rowsOf z rs).length = rs.length := by simp [rowsOf]
theorem rowsOf_nth (z : List (List Int)) (rs : List Int) {i : Nat} (h : i < rs.length) : nthL (rowsOf z rs) i = nthL z (nth rs i).toNat := by
  rw [nthL_lt (by rw [rowsOf_len]; exact h), nth_lt h]; simp [rowsOf]
noncomputable def raCode (p c : Int) (z : List (List Int)) (rs : List Int) : Int := if tell (MatOk p c z) = true then (if tell (RowsIn z rs) = true then 0 else 2) else 1
noncomputable def raP (p c : Int) (z : List (List Int)) (rs : List Int) : Int := if tell (MatOk p c z) = true then (if tell (RowsIn z rs) = true then p else 0) else 0
noncomputable def raC (p c : Int) (z : List (List Int)) (rs : List Int) : Int := if tell (MatOk p c z) = true then (if tell (RowsIn z rs) = true then c else 0) else 0
noncomputable def raZ (p c : Int) (z : List (List Int)) (rs : List Int) : List (List Int) := if tell (MatOk p c z) = true then (if tell (RowsIn z rs) = true then rowsOf z rs else []) else []
theorem ra_yes {p c : Int} {z : List (List Int)} {rs : List Int} (h1 : MatOk p c z) (h2 : RowsIn z rs) : raCode p c z rs = 0 ∧ raP p c z rs = p ∧ raC p c z rs = c ∧ raZ p c z rs = rowsOf z rs := by
  unfold raCode raP raC raZ; rw [tell_true h1, tell_true h2]; exact ⟨rfl, rfl, rfl, rfl⟩
theorem ra_no {p c : Int} {z : List (List Int)} {rs : List Int} (h1 : MatOk p c z) (h2 : ¬ RowsIn z rs) : raCode p c z rs = 2 ∧ raP p c z rs = 0 ∧ raC p c z rs = 0 ∧ raZ p c z rs = [] := by
  unfold raCode raP raC raZ; rw [tell_true h1, tell_false h2]; exact ⟨rfl, rfl, rfl, rfl⟩
theorem ra_bad {p c : Int} {z : List (List Int)} {rs : List Int} (h1 : ¬ MatOk p c z) : raCode p c z rs = 1 ∧ raP p c z rs = 0 ∧ raC p c z rs = 0 ∧ raZ p c z rs = [] := by
  unfold raCode raP raC raZ; rw [tell_false h1]; exact ⟨rfl, rfl, rfl, rfl⟩
theorem mat_rows {p c : Int} {z : List (List Int)} (h : MatOk p c z) {i : Nat} (hi : i < z.length) : (nthL z i).length ≤ 12 := by have := (h.2.2.2 i hi).1; have := h.2.1.2; omega
theorem mat_small {p c : Int} {z : List (List Int)} (h : MatOk p c z) : Small2 z := ⟨by have := h.2.2.1; omega, fun r hr => by have := mat_rows h hr; omega⟩
theorem rowsOf_small {p c : Int} {z : List (List Int)} {rs : List Int} (h : MatOk p c z) (h2 : RowsIn z rs) : Small2 (rowsOf z rs) := by
  refine ⟨by rw [rowsOf_len]; have := h2.1; omega, fun r hr => ?_⟩
  rw [rowsOf_len] at hr
  rw [rowsOf_nth z rs hr]
  have := h2.2 r hr
  have := mat_rows h (i := (nth rs r).toNat) (by omega)
  omega
theorem ra_small (p c : Int) (z : List (List Int)) (rs : List Int) : Small2 (raZ p c z rs) := by
  unfold raZ
  split
  · next q =>
    split
    · next q2 => exact rowsOf_small (of_tell q) (of_tell q2)
    · exact ⟨by simp, fun r hr => absurd hr (Nat.not_lt_zero _)⟩
  · exact ⟨by simp, fun r hr => absurd hr (Nat.not_lt_zero _)⟩

end Go.Proofs.Ytnebkhelobpkpaa

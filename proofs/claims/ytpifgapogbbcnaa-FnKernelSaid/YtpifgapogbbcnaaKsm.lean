/- l03Kernel and KernelOf of the model. -/
import Derived.Test.YtpifgapogbbcnaaKe0
import Derived.Test.YtpifgapogbbcnaaSl
import Derived.Test.YtpifgapogbbcnaaGk
import Derived.BigRegion
namespace Go.Proofs.Ytpifgapogbbcnaa
open Go.RowKit Go.Deep Go.Joins
set_option linter.unusedVariables false

theorem hasIn_colI (F : List Nat) (k : Nat) : HasIn (colI F) (k : Int) ↔ k ∈ F := by
  constructor
  · rintro ⟨i, hi, h⟩
    rw [colI_len] at hi
    rw [colI_nth hi] at h
    have : nthN F i = k := by omega
    rw [← this]
    exact nthN_mem hi
  · intro h
    obtain ⟨i, hi, rfl⟩ := List.getElem_of_mem h
    exact ⟨i, by rw [colI_len]; exact hi, by rw [colI_nth hi, nthN_lt hi]⟩

theorem ech_elems {p : Int} {n : Nat} {z : List (List Int)} (hg : GoodM p n z) (i : Nat) (hi : i < (echF p n z).length) (j : Nat) (hj : j < n) : Elem p (nth (nthL (echZ p n z) i) j) := by
  unfold echZ
  rw [tab_at _ _ _ hi hj]
  by_cases hx : ∃ x : (Nat → Nat → Int) × List Nat, Steps p n z.length (fn z) n x.1 x.2
  · obtain ⟨x, hx⟩ := hx
    have h := ech_elem hg hx
    exact h.2.2.2 i (by omega) j hj
  · exfalso
    unfold echF redOf at hi
    rw [dif_neg hx] at hi
    simp at hi

end Go.Proofs.Ytpifgapogbbcnaa

/- The kernel of a matrix, as a function of its echelon. -/
import Derived.Test.YtnebkhelobpkpaaSo0
namespace Go.Proofs.Ytnebkhelobpkpaa
open Go.RowKit Go.Deep
set_option linter.unusedVariables false

section
variable (p : Int) (n : Nat) (z : List (List Int))
/-- What stands at the first columns of a row of the kernel. -/
noncomputable def kerG (k : Nat) : Nat → Int := fun i => (p - nth (nthL (echZ p n z) i) k) % p
/-- A 1 in a column. -/
def oneAt (k : Nat) : Nat → Int := fun j => if j = k then 1 else 0
/-- The row of the kernel for a column. -/
noncomputable def kerRow (k : Nat) : List Int := rowOf n (solAt (oneAt k) (echF p n z) (kerG p n z k) (echF p n z).length)
open Classical in
/-- The rows of the kernel for the first columns. -/
noncomputable def kerTo : Nat → List (List Int)
  | 0 => []
  | k + 1 => if k ∈ echF p n z then kerTo k else kerTo k ++ [kerRow p n z k]
/-- The kernel. -/
noncomputable def kerZ : List (List Int) := kerTo p n z n
end
section
variable {p : Int} {n : Nat} {z : List (List Int)}
theorem kerRow_len (k : Nat) : (kerRow p n z k).length = n := rowOf_len _ _
theorem ker_skip {k : Nat} (h : k ∈ echF p n z) : kerTo p n z (k + 1) = kerTo p n z k := by rw [kerTo, if_pos h]
theorem ker_next {k : Nat} (h : k ∉ echF p n z) : kerTo p n z (k + 1) = kerTo p n z k ++ [kerRow p n z k] := by rw [kerTo, if_neg h]
theorem kerTo_len : ∀ k, (kerTo p n z k).length ≤ k
  | 0 => Nat.le_refl _
  | k + 1 => by
    have := kerTo_len k
    by_cases h : k ∈ echF p n z
    · rw [ker_skip h]; omega
    · rw [ker_next h, List.length_append]; simp; omega
theorem kerTo_rows : ∀ k, ∀ r ∈ kerTo p n z k, r.length = n
  | 0, r, h => by simp [kerTo] at h
  | k + 1, r, h => by
    by_cases e : k ∈ echF p n z
    · rw [ker_skip e] at h; exact kerTo_rows k r h
    · rw [ker_next e] at h
      rcases List.mem_append.1 h with h | h
      · exact kerTo_rows k r h
      · rw [List.mem_singleton.1 h]; exact kerRow_len k
theorem kerZ_small (hn : n ≤ 1048576) : Small2 (kerZ p n z) := ⟨by unfold kerZ; have := kerTo_len (p := p) (n := n) (z := z) n; omega, fun r hr => by
  rw [nthL_lt hr, kerTo_rows n _ (List.getElem_mem hr)]; exact hn⟩
theorem ker_set (f0 : Nat → Int) (F : List Nat) (g : Nat → Int) (n k : Nat) : (rowOf n (solAt f0 F g k)).set (nthN F k) (g k) = rowOf n (solAt f0 F g (k + 1)) := by
  refine ext_nth (by simp [rowOf]) fun i hi => ?_
  have hi' : i < n := by simpa [rowOf] using hi
  rw [rowOf_at _ _ hi', nth_lt hi, sol_next]
  by_cases e : i = nthN F k
  · subst e
    simp
  · rw [List.getElem_set_ne (fun q => e q.symm), if_neg e]
    simp [rowOf]
end
noncomputable def keSel {α : Type} (p c : Int) (z : List (List Int)) (bad lim ok : α) : α :=
  if tell (MatOk p c z) = true then (if tell (MatOk p c (kerZ p c.toNat z)) = true then ok else lim) else bad
theorem ke_bad {α : Type} {p c : Int} {z : List (List Int)} (h : ¬ MatOk p c z) (b l o : α) : keSel p c z b l o = b := by unfold keSel; rw [tell_false h]; rfl
theorem ke_lim {α : Type} {p c : Int} {z : List (List Int)} (h : MatOk p c z) (h2 : ¬ MatOk p c (kerZ p c.toNat z)) (b l o : α) : keSel p c z b l o = l := by unfold keSel; rw [tell_true h, if_pos rfl, tell_false h2]; rfl
theorem ke_ok {α : Type} {p c : Int} {z : List (List Int)} (h : MatOk p c z) (h2 : MatOk p c (kerZ p c.toNat z)) (b l o : α) : keSel p c z b l o = o := by unfold keSel; rw [tell_true h, if_pos rfl, tell_true h2]; rfl
theorem ke_small (p c : Int) (z : List (List Int)) : Small2 (keSel p c z [] [] (kerZ p c.toNat z)) := by
  have h0 : Small2 [] := ⟨by simp, fun r hr => absurd hr (Nat.not_lt_zero _)⟩
  by_cases h : MatOk p c z
  · by_cases h2 : MatOk p c (kerZ p c.toNat z)
    · rw [ke_ok h h2]; exact kerZ_small (by have := h.2.1.2; omega)
    · rw [ke_lim h h2]; exact h0
  · rw [ke_bad h]; exact h0
end Go.Proofs.Ytnebkhelobpkpaa

/- ProductOf: what is to be answered. -/
import Derived.Test.YtekhjoenejgmaaaDot
import Derived.Test.YtekhjoenejgmaaaCp3
import Derived.Deep.RegionHeld3
namespace Go.Proofs.Ytekhjoenejgmaaa
open Go.RowKit Go.Deep
set_option linter.unusedVariables false

noncomputable def prSel {α : Type} (p c : Int) (z : List (List Int)) (q d : Int) (y : List (List Int)) (bad rng ok : α) : α :=
  if tell (MatOk p c z ∧ MatOk q d y) = true then (if p = q ∧ c = (y.length : Int) then ok else rng) else bad
theorem pr_bad {α : Type} {p c q d : Int} {z y : List (List Int)} (h : ¬ (MatOk p c z ∧ MatOk q d y)) (b r o : α) : prSel p c z q d y b r o = b := by unfold prSel; rw [tell_false h]; rfl
theorem pr_rng {α : Type} {p c q d : Int} {z y : List (List Int)} (h : MatOk p c z ∧ MatOk q d y) (h2 : ¬ (p = q ∧ c = (y.length : Int))) (b r o : α) : prSel p c z q d y b r o = r := by unfold prSel; rw [tell_true h, if_pos rfl, if_neg h2]
theorem pr_ok {α : Type} {p c q d : Int} {z y : List (List Int)} (h : MatOk p c z ∧ MatOk q d y) (h2 : p = q ∧ c = (y.length : Int)) (b r o : α) : prSel p c z q d y b r o = o := by unfold prSel; rw [tell_true h, if_pos rfl, if_pos h2]
theorem prod_len (z y : List (List Int)) (p : Int) (cn n : Nat) : (prod z y p cn n).length = z.length := tab_len _ _ _
theorem prod_rlen (z y : List (List Int)) (p : Int) (cn n : Nat) {r : Nat} (h : r < z.length) : (nthL (prod z y p cn n) r).length = n := tab_rlen _ _ _ h
theorem prod_small {p c q d : Int} {z y : List (List Int)} (h : MatOk p c z) (h2 : MatOk q d y) (m : Int) (cn : Nat) : Small2 (prod z y m cn d.toNat) := ⟨by rw [prod_len]; have := h.2.2.1; omega, fun r hr => by rw [prod_len] at hr; rw [prod_rlen _ _ _ _ _ hr]; have := h2.2.1.2; omega⟩
theorem pr_small (p c : Int) (z : List (List Int)) (q d : Int) (y : List (List Int)) : Small2 (prSel p c z q d y [] [] (prod z y p c.toNat d.toNat)) := by
  have h0 : Small2 [] := ⟨by simp, fun r hr => absurd hr (Nat.not_lt_zero _)⟩
  by_cases h : MatOk p c z ∧ MatOk q d y
  · by_cases h2 : p = q ∧ c = (y.length : Int)
    · rw [pr_ok h h2]; exact prod_small h.1 h.2 _ _
    · rw [pr_rng h h2]; exact h0
  · rw [pr_bad h]; exact h0
theorem matr_small2 {p c : Int} {z : List (List Int)} (h : MatOk p c z) : Small2 z := ⟨by have := h.2.2.1; omega, fun r hr => by have := (h.2.2.2 r hr).1; have := h.2.1.2; omega⟩
end Go.Proofs.Ytekhjoenejgmaaa

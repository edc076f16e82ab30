/- TransposeOf of the program. -/
import Derived.Test.YtnebkhelobpkpaaTra
namespace Go.Proofs.Ytnebkhelobpkpaa
open Go.RowKit Go.Deep
set_option linter.unusedVariables false

noncomputable def trSel {α : Type} (p c : Int) (z : List (List Int)) (bad lim ok : α) : α :=
  if tell (MatOk p c z) = true then (if tell (MatOk p z.length (turned z c.toNat)) = true then ok else lim) else bad
theorem tr_bad {α : Type} {p c : Int} {z : List (List Int)} (h : ¬ MatOk p c z) (b l o : α) : trSel p c z b l o = b := by unfold trSel; rw [tell_false h]; rfl
theorem tr_lim {α : Type} {p c : Int} {z : List (List Int)} (h : MatOk p c z) (h2 : ¬ MatOk p z.length (turned z c.toNat)) (b l o : α) : trSel p c z b l o = l := by unfold trSel; rw [tell_true h, if_pos rfl, tell_false h2]; rfl
theorem tr_ok {α : Type} {p c : Int} {z : List (List Int)} (h : MatOk p c z) (h2 : MatOk p z.length (turned z c.toNat)) (b l o : α) : trSel p c z b l o = o := by unfold trSel; rw [tell_true h, if_pos rfl, tell_true h2]; rfl
theorem turned_len (z : List (List Int)) (n : Nat) : (turned z n).length = n := tab_len _ _ _
theorem turned_rlen (z : List (List Int)) (n : Nat) {r : Nat} (h : r < n) : (nthL (turned z n) r).length = z.length := tab_rlen _ _ _ h
theorem matr_small {p c : Int} {z : List (List Int)} (h : MatOk p c z) : Small2 z := ⟨by have := h.2.2.1; omega, fun r hr => by have := (h.2.2.2 r hr).1; have := h.2.1.2; omega⟩
theorem turned_small {p c : Int} {z : List (List Int)} (h : MatOk p c z) : Small2 (turned z c.toNat) := ⟨by rw [turned_len]; have := h.2.1.2; omega, fun r hr => by rw [turned_len] at hr; rw [turned_rlen z _ hr]; have := h.2.2.1; omega⟩
theorem tr_small (p c : Int) (z : List (List Int)) : Small2 (trSel p c z [] [] (turned z c.toNat)) := by
  have h0 : Small2 [] := ⟨by simp, fun r hr => absurd hr (Nat.not_lt_zero _)⟩
  by_cases h : MatOk p c z
  · by_cases h2 : MatOk p z.length (turned z c.toNat)
    · rw [tr_ok h h2]; exact turned_small h
    · rw [tr_lim h h2]; exact h0
  · rw [tr_bad h]; exact h0
theorem OwnG.gridn {W : World} {base n c : Nat} {p : Int} {a : Option Addr} {us : List Value} {zss : List (List Int)} (h : OwnG W base p (.slice a n c) us zss) : n = zss.length ∧ GridR W a p zss := h.gridv
end Go.Proofs.Ytnebkhelobpkpaa

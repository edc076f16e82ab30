/- l03Solve and l03Combine of the model. -/
import Derived.Test.YtpifgapogbbcnaaBe
import Derived.Test.YtpifgapogbbcnaaEm1
namespace Go.Proofs.Ytpifgapogbbcnaa
open Go.RowKit Go.Deep Go.Joins
set_option linter.unusedVariables false

theorem colI_nth {F : List Nat} {k : Nat} (h : k < F.length) : nth (colI F) k = ((nthN F k : Nat) : Int) := by
  rw [nth_lt (by rw [colI_len]; exact h), nthN_lt h]; simp [colI]
theorem own_rows3 {W : World} {base n c : Nat} {a : Option Addr} {us : List Value} {zss : List (List Int)} (h : Own W base (.slice a n c) us zss) : Rows2 W a zss := by
  obtain ⟨a', c', e, hr⟩ := h.rows2
  cases e
  exact hr
theorem rows_one {W : World} {b c : Nat} {av : Option Addr} {v : List Int} (hc : W.cell? ⟨b, 0, none⟩ = some (.slice av v.length c)) (hi : Ints W av v) : Rows2 W (some ⟨b, 0, none⟩) [v] := .inr ⟨b, 0, rfl, fun i h => by
  have : i = 0 := by simpa using h
  subst this
  exact ⟨av, c, hc, hi⟩⟩
end Go.Proofs.Ytpifgapogbbcnaa

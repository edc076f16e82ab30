/- TransposeOf of the model. -/
import Derived.Test.YtpifgapogbbcnaaTur
import Derived.Test.YtpifgapogbbcnaaSk
namespace Go.Proofs.Ytpifgapogbbcnaa
open Go.RowKit Go.Deep
set_option linter.unusedVariables false

theorem Own.rowsn {W : World} {base n c : Nat} {a : Option Addr} {us : List Value} {zss : List (List Int)} (h : Own W base (.slice a n c) us zss) : n = zss.length ∧ Rows2 W a zss := by
  obtain ⟨a', c', e, hr⟩ := h.rows2
  cases e
  exact ⟨rfl, hr⟩

end Go.Proofs.Ytpifgapogbbcnaa

/- The program's newTable: who has all holders of one of some groups. -/
import Derived.Test.YtdfggbojccfblaaGr
namespace Go.Proofs.Ytdfggbojccfblaa
open Go.RowKit Go.Deep Go.Shelf
set_option linter.unusedVariables false
attribute [local go_sem] Oper.semAt_some

theorem Sets.below' {w w' : World} {a : Option Addr} {l : List Nat} (h : Sets w a l) (hb : Below w.heap.size w w') : Sets w' a l :=
  h.imp id fun ⟨b, o, ha, hc⟩ => ⟨b, o, ha, fun i hi => cell_step hb (hc i hi)⟩
/-- One of the groups is within x. -/
def anyIn (l : List Nat) (x : Nat) : Bool := l.any fun y => y &&& x == y

theorem tell_beq (x y : Nat) : tell (y &&& x = y) = (y &&& x == y) := by
  by_cases h : y &&& x = y
  · rw [tell_true h, beq_iff_eq.2 h]
  · rw [tell_false h, beq_eq_false_iff_ne.2 h]

end Go.Proofs.Ytdfggbojccfblaa

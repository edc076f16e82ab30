/- The program's ThresholdFamily. -/
import Derived.Test.YtdfggbojccfblaaThr
import Derived.Test.YtdfggbojccfblaaFw
namespace Go.Proofs.Ytdfggbojccfblaa
open Go.RowKit Go.Deep Go.Shelf
set_option linter.unusedVariables false

theorem famWhere_any (h : Nat) (fid : FuncId) (cl cr : Array Value) (p : Nat → Bool) (w : World) (h1 : 1 ≤ h) (h7 : h ≤ 7) (hC : Chooses w fid cl cr p) :
    Calls Try.prog 59 #[.int .i64 (h : Nat), .func (.func fid) cl cr] w (GivesFam w h (famOf h p)) := by
  rw [← famOf_seen h7]
  exact familyWhere_any h fid cl cr p w h1 h7 hC

end Go.Proofs.Ytdfggbojccfblaa

/- EchelonOf and RankOf of the model. -/
import Derived.Test.YtekhjoenejgmaaaEm1
import Derived.Test.YtekhjoenejgmaaaVm
namespace Go.Proofs.Ytekhjoenejgmaaa
open Go.RowKit Go.Deep Go.Joins
set_option linter.unusedVariables false

set_option maxRecDepth 100000 in
set_option maxHeartbeats 2000000 in
theorem l03Rank_any (q0 n ca : Nat) (p : Int) (a : Option Addr) (z : List (List Int)) (w : World) (hbx : Boxes w q0 31 #[.int .i64 p, .int .i64 ((n : Nat) : Int), .slice a z.length ca]) (hr : Rows2 w a z) (hg : GoodM p n z) :
    Calls Try.prog 84 #[.pointer (some ⟨q0, 0, none⟩)] w fun e w' => e = .returned (.int .i64 ((echF p n z).length : Nat)) ∧ Below w.heap.size w w' := by
  have HG := Lib.hid hg
  go_enter Try.func84, Try.ntmps84
  go_wp2_with fail
  refine (l03Echelon_any q0 n ca p a z w hbx hr HG.out).mono ?_
  clear hbx hr hg
  rintro e w4 ⟨⟨va, vc, fa, fc, us, f, rfl, -, -, -, -⟩, hb4⟩
  go_wp2_with fail
  go_ret
  exact ⟨rfl, hb4.trans ((al_b w4 _).mono hb4.size)⟩

end Go.Proofs.Ytekhjoenejgmaaa

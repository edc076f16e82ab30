/- matrixWithin and zeros without rows; RowsAt of the program. -/
import Derived.Test.YtnebkhelobpkpaaGl
import Derived.Deep.AppendLies
import Derived.Deep.RegionLaw
import Derived.Deep.DrawnRows
namespace Go.Proofs.Ytnebkhelobpkpaa
open Go.RowKit Go.Deep
set_option linter.unusedVariables false
attribute [local go_sem ↓] Go.wp_at_zero Go.wp_at_succ

theorem OwnG.gridv {W : World} {base n c : Nat} {p : Int} {a : Option Addr} {us : List Value} {zss : List (List Int)} (h : OwnG W base p (.slice a n c) us zss) : n = zss.length ∧ GridR W a p zss := by
  obtain ⟨a', c', e, hr⟩ := h.grid
  cases e
  exact ⟨rfl, hr⟩

set_option maxRecDepth 100000 in
theorem zeros0_any (p c : Int) (w : World) :
    Calls Try.prog 118 #[.int .i64 p, .int .i64 0, .int .i64 c] w fun e w' => e = .returned (.agg #[.slice none 0 0, .int .i64 p, .int .i64 c]) ∧ Below w.heap.size w w' := by
  go_enter Try.func118, Try.ntmps118
  go_wp2_with fail
  go_rounds 1
  refine bodyPost_ret (v := .agg #[.slice none 0 0, .int .i64 p, .int .i64 c]) (by simp [results, Try.results118, go_sem]) rfl ⟨rfl, ?_⟩
  exact ((Below.refl w.heap.size w).alloc (Nat.le_refl _) _).alloc (by simp) _

end Go.Proofs.Ytnebkhelobpkpaa

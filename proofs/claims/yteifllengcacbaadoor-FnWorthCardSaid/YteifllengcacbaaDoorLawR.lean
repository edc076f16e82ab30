/- What the walks of the laws use: answers that are lists of groups. -/
import Derived.Test.YteifllengcacbaaDoorLawA
namespace Go.Proofs.YteifllengcacbaaDoor
open Go.RowKit Go.Deep
set_option linter.unusedVariables false

/-- What gives rows and a code, to be read. -/
structure GivesRX (W : World) (zss : List (List Int)) (code : Int) (e : Ending) (w' : World) : Prop where
  val : ∃ a c, e = .returned (.tuple #[.slice a zss.length c, .int .i64 code]) ∧ RowsF w' W.heap.size a zss
  below : Below W.heap.size W w'
/-- What gives rows and a code in memory of its own. -/
structure GivesRY (W : World) (zss : List (List Int)) (code : Int) (e : Ending) (w' : World) : Prop where
  val : ∃ v us, e = .returned (.tuple #[v, .int .i64 code]) ∧ Own w' W.heap.size v us zss
  below : Below W.heap.size W w'
theorem Own.lower {W : World} {base base' : Nat} {v : Value} {us : List Value} {zss : List (List Int)} (h : Own W base v us zss) (hb : base' ≤ base) : Own W base' v us zss := ⟨ownsRow_mono h.row hb, h.rows.mono hb⟩
end Go.Proofs.YteifllengcacbaaDoor

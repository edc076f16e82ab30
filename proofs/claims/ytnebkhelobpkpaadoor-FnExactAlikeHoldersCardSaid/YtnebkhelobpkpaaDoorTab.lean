/- The table of who opens: its methods. -/
import Derived.Test.YtnebkhelobpkpaaDoorWhereA
import Derived.Test.YtnebkhelobpkpaaDoorRound
namespace Go.Proofs.YtnebkhelobpkpaaDoor
open Go.RowKit Go.Deep Go.Shelf
set_option linter.unusedVariables false

set_option maxRecDepth 100000 in
theorem opens_any (T h x : Nat) (q : Nat → Bool) (w : World) (hx : x < 128) (ht : TableAt w T h q) : Calls Tryd.prog 82 #[.pointer (some ⟨T, 0, none⟩), .int .u64 x] w fun e w' => e = .returned (.bool (q x)) ∧ w = w' := by
  have hc := ht.cell x hx
  have hxi : ((x : Nat) : Int) < 128 := by omega
  clear ht
  go_enter Tryd.func82, Tryd.ntmps82
  go_wp2
  go_ret
  exact ⟨rfl, rfl⟩

/-- x without one of its holders. -/
def dropOne (x i : Nat) : Nat := x &&& (127 - 2 ^ i)
theorem dropOne_lt {x : Nat} (hx : x < 128) (i : Nat) : dropOne x i < 128 := Nat.lt_of_le_of_lt Nat.and_le_left hx

theorem without_fact : ∀ x : Nat, x < 128 → ∀ n : Nat, n < 7 → bits BinOp.andNot IntKind.u64 (x : Int) (IntKind.u64.wrap (2 ^ n)) = (dropOne x n : Nat) := by decide +kernel

def leastB (h : Nat) (q : Nat → Bool) (x : Nat) : Bool := ((List.range h).all fun i => !(x.testBit i && q (dropOne x i))) && q x

end Go.Proofs.YtnebkhelobpkpaaDoor

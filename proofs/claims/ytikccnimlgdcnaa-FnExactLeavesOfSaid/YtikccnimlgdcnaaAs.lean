/- Assertions on nodes: leaves and thresholds. -/
import Derived.Test.YtikccnimlgdcnaaNd
namespace Go.Proofs.Ytikccnimlgdcnaa
open Go.RowKit Go.Deep

theorem assert_ll (x : Value) (w : World) : (Instr.typeAssert (.iface 72 x) 53 72 true).run Try.prog w = .ok (.tuple #[x, .bool true]) w := by first | rfl | kernel_rfl
theorem assert_tl (x : Value) (w : World) : (Instr.typeAssert (.iface 75 x) 53 72 true).run Try.prog w = .ok (.tuple #[.agg #[.int .i64 0], .bool false]) w := by first | rfl | kernel_rfl
theorem assert_tt (x : Value) (w : World) : (Instr.typeAssert (.iface 75 x) 53 75 true).run Try.prog w = .ok (.tuple #[x, .bool true]) w := by first | rfl | kernel_rfl
theorem assert_lt (x : Value) (w : World) : (Instr.typeAssert (.iface 72 x) 53 75 true).run Try.prog w = .ok (.tuple #[.agg #[.int .i64 0, .slice none 0 0], .bool false]) w := by first | rfl | kernel_rfl
end Go.Proofs.Ytikccnimlgdcnaa

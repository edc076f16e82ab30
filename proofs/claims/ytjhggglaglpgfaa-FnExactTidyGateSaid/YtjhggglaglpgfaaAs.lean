/- Assertions on nodes: leaves and thresholds. -/
import Derived.Test.YtjhggglaglpgfaaNd
namespace Go.Proofs.Ytjhggglaglpgfaa
open Go.RowKit Go.Deep

set_option maxRecDepth 100000 in
theorem assert_ll (x : Value) (w : World) : (Instr.typeAssert (.iface 62 x) 49 62 true).run Try.prog w = .ok (.tuple #[x, .bool true]) w := by first | rfl | kernel_rfl
set_option maxRecDepth 100000 in
theorem assert_tl (x : Value) (w : World) : (Instr.typeAssert (.iface 68 x) 49 62 true).run Try.prog w = .ok (.tuple #[.agg #[.int .i64 0], .bool false]) w := by first | rfl | kernel_rfl
set_option maxRecDepth 100000 in
theorem assert_tt (x : Value) (w : World) : (Instr.typeAssert (.iface 68 x) 49 68 true).run Try.prog w = .ok (.tuple #[x, .bool true]) w := by first | rfl | kernel_rfl
set_option maxRecDepth 100000 in
theorem assert_lt (x : Value) (w : World) : (Instr.typeAssert (.iface 62 x) 49 68 true).run Try.prog w = .ok (.tuple #[.agg #[.int .i64 0, .slice none 0 0], .bool false]) w := by first | rfl | kernel_rfl
end Go.Proofs.Ytjhggglaglpgfaa

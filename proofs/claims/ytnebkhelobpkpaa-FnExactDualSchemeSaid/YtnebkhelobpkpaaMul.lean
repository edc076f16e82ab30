/- math/bits.Mul of the program; copy of elements of several cells; slices.Repeat of one element. -/
import Derived.Test.YtnebkhelobpkpaaGd
import Derived.Lib.Mul64
import Derived.Laws.Bits64b
import Derived.Laws.CopyOwn
import Derived.Deep.RegionLaw
namespace Go.Proofs.Ytnebkhelobpkpaa
open Go.RowKit Go.Deep
set_option linter.unusedVariables false

namespace M64
theorem maskN (a : Nat) (ha : a < 18446744073709551616) : bits .and .u64 (a : Int) 4294967295 = ((a % 4294967296 : Nat) : Int) := by
  have h := bits_and_u64_nat a 4294967295 ha (by omega)
  have e : a &&& 4294967295 = a % 4294967296 := Nat.and_two_pow_sub_one_eq_mod a 32
  rw [e] at h
  exact h
theorem divN (a : Nat) : (a : Int) / 4294967296 = ((a / 4294967296 : Nat) : Int) := by omega
theorem wrapN (a : Int) (h0 : 0 ≤ a) (h1 : a < 18446744073709551616) : IntKind.u64.wrap a = a := by rw [IntKind.wrap_u64]; omega
end M64

set_option maxRecDepth 100000 in
set_option maxHeartbeats 1000000 in
theorem mul64_one (y : Nat) (hy : y ≤ 1048576) (w : World) :
    Calls Try.prog 178 #[.int .u64 1, .int .u64 y] w fun e w' => e = .returned (.tuple #[.int .u64 0, .int .u64 y]) ∧ w = w' := by
  have h1 : bits .and .u64 1 4294967295 = 1 := by have := M64.maskN 1 (by omega); simpa using this
  have h2 : bits .and .u64 0 4294967295 = 0 := by have := M64.maskN 0 (by omega); simpa using this
  have h3 : bits .and .u64 (y : Int) 4294967295 = (y : Int) := by rw [M64.maskN y (by omega)]; omega
  have h4 : (y : Int) / 4294967296 = 0 := by omega
  have h5 : IntKind.u64.wrap (y : Int) = (y : Int) := M64.wrapN _ (by omega) (by omega)
  go_enter Try.func178, Try.ntmps178
  go_wp2
  go_ret2
  exact ⟨rfl, rfl⟩
set_option maxRecDepth 100000 in
theorem mul_one (y : Nat) (hy : y ≤ 1048576) (w : World) :
    Calls Try.prog 167 #[.int .u64 1, .int .u64 y] w fun e w' => e = .returned (.tuple #[.int .u64 0, .int .u64 y]) ∧ w = w' := by
  go_enter Try.func167, Try.ntmps167
  go_wp2_with fail
  refine (mul64_one y hy w).mono ?_
  rintro e w' ⟨rfl, rfl⟩
  go_wp2
  go_ret2
  exact ⟨rfl, rfl⟩
end Go.Proofs.Ytnebkhelobpkpaa

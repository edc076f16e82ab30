/- The table of who opens: its methods. -/
import Derived.Test.YteifllengcacbaaDoorWhereA
import Derived.Test.YteifllengcacbaaDoorRound
namespace Go.Proofs.YteifllengcacbaaDoor
open Go.RowKit Go.Deep Go.Shelf
set_option linter.unusedVariables false

set_option maxRecDepth 100000 in
theorem opens_any (T h x : Nat) (q : Nat → Bool) (w : World) (hx : x < 128) (ht : TableAt w T h q) : Calls Tryd.prog 47 #[.pointer (some ⟨T, 0, none⟩), .int .u64 x] w fun e w' => e = .returned (.bool (q x)) ∧ w = w' := by
  have hc := ht.cell x hx
  have hxi : ((x : Nat) : Int) < 128 := by omega
  clear ht
  go_enter Tryd.func47, Tryd.ntmps47
  go_wp2
  go_ret
  exact ⟨rfl, rfl⟩

/-- x without one of its holders. -/
def dropOne (x i : Nat) : Nat := x &&& (127 - 2 ^ i)
theorem dropOne_lt {x : Nat} (hx : x < 128) (i : Nat) : dropOne x i < 128 := Nat.lt_of_le_of_lt Nat.and_le_left hx

theorem without_fact : ∀ x : Nat, x < 128 → ∀ n : Nat, n < 7 → bits BinOp.andNot IntKind.u64 (x : Int) (IntKind.u64.wrap (2 ^ n)) = (dropOne x n : Nat) := by decide +kernel

set_option maxRecDepth 100000 in
theorem without_any (x i : Nat) (w : World) (hx : x < 128) (hi : i < 7) : Calls Tryd.prog 95 #[.int .u64 x, .int .i64 i] w fun e w' => e = .returned (.int .u64 (dropOne x i : Nat)) ∧ w = w' := by
  go_enter Tryd.func95, Tryd.ntmps95
  go_wp2
  go_ret
  exact ⟨by rw [← without_fact x hx i hi]; rfl, rfl⟩

def leastB (h : Nat) (q : Nat → Bool) (x : Nat) : Bool := ((List.range h).all fun i => !(x.testBit i && q (dropOne x i))) && q x

set_option maxRecDepth 100000 in
set_option maxHeartbeats 400000 in
theorem isLeast_any (T h x : Nat) (q : Nat → Bool) (w : World) (hx : x < 128) (h7 : h ≤ 7) (ht : TableAt w T h q) : Calls Tryd.prog 83 #[.pointer (some ⟨T, 0, none⟩), .int .u64 x] w fun e w' => e = .returned (.bool (leastB h q x)) ∧ w = w' := by
  have h0 := ht.h0
  have HT := Lib.hid ht
  clear ht
  go_enter Tryd.func83, Tryd.ntmps83
  go_wp2_with fail
  go_loopw [10] (fun i wr => ∃ k : Nat, k ≤ h ∧ i = .int .i64 k ∧ wr = w ∧ (∀ j, j < k → (!(x.testBit j && q (dropOne x j))) = true))
    (fun i _ => h - (intOf i).toNat)
  case atStart => exact ⟨0, by omega, rfl, rfl, fun j hj => by omega⟩
  case round =>
    obtain ⟨k, hk, rfl, rfl, hall⟩ := hrel
    have HA := Lib.hid hall
    clear hall
    by_cases hlt : k < h
    · cases hbit : x.testBit k with
      | true =>
        have HB := Lib.hid hbit
        clear hbit
        cases hq : q (dropOne x k) with
        | true =>
          have HQ := Lib.hid hq
          clear hq
          go_wp2_with (first
            | (go_at_call 78; refine (has_any x k wr hx (by omega) (by omega)).mono ?_; rintro e w' ⟨rfl, rfl⟩; rw [Int.toNat_natCast, HB.out])
            | (go_at_call 95; refine (without_any x k wr hx (by omega)).mono ?_; rintro e w' ⟨rfl, rfl⟩)
            | (go_at_call 47; refine (opens_any T h (dropOne x k) q wr (dropOne_lt hx k) HT.out).mono ?_; rintro e w' ⟨rfl, rfl⟩; rw [HQ.out]))
          go_ret
          refine ⟨ret_bool (Eq.symm ?_), rfl⟩
          unfold leastB
          rw [Bool.and_eq_false_iff]
          refine .inl (List.all_eq_false.2 ⟨k, by simpa using hlt, ?_⟩)
          rw [HB.out, HQ.out]; decide
        | false =>
          have HQ := Lib.hid hq
          clear hq
          go_wp2_with (first
            | (go_at_call 78; refine (has_any x k wr hx (by omega) (by omega)).mono ?_; rintro e w' ⟨rfl, rfl⟩; rw [Int.toNat_natCast, HB.out])
            | (go_at_call 95; refine (without_any x k wr hx (by omega)).mono ?_; rintro e w' ⟨rfl, rfl⟩)
            | (go_at_call 47; refine (opens_any T h (dropOne x k) q wr (dropOne_lt hx k) HT.out).mono ?_; rintro e w' ⟨rfl, rfl⟩; rw [HQ.out]))
          go_roundw
          case rel =>
            refine ⟨k + 1, by omega, by go_num, by simp, fun j hj => ?_⟩
            rcases Nat.lt_succ_iff_lt_or_eq.1 hj with h1 | h1
            · exact HA.out j h1
            · subst h1; rw [HB.out, HQ.out]; decide
          case measure => simp [intOf]; omega
      | false =>
        have HB := Lib.hid hbit
        clear hbit
        go_wp2_with (first
            | (go_at_call 78; refine (has_any x k wr hx (by omega) (by omega)).mono ?_; rintro e w' ⟨rfl, rfl⟩; rw [Int.toNat_natCast, HB.out]))
        go_roundw
        case rel =>
          refine ⟨k + 1, by omega, by go_num, by simp, fun j hj => ?_⟩
          rcases Nat.lt_succ_iff_lt_or_eq.1 hj with h1 | h1
          · exact HA.out j h1
          · subst h1; rw [HB.out]; rfl
        case measure => simp [intOf]; omega
    · have e7 : k = h := by omega
      have H7 := Lib.hid e7
      clear e7
      go_wp2_with (first
            | (go_at_call 47; refine (opens_any T h x q wr hx HT.out).mono ?_; rintro e w' ⟨rfl, rfl⟩))
      go_ret
      refine ⟨ret_bool (Eq.symm ?_), rfl⟩
      unfold leastB
      rw [List.all_eq_true.2 (fun j hj => HA.out j (by have := H7.out; have := List.mem_range.1 hj; omega)), Bool.true_and]
end Go.Proofs.YteifllengcacbaaDoor

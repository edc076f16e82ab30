/- The contracts of the program's checks of groups: cmp.Compare, slices.Compare, with, within, setOf, hasParts. -/
import Derived.Test.YtdfggbojccfblaaOk
namespace Go.Proofs.Ytdfggbojccfblaa
open Go.RowKit Go.Deep
set_option linter.unusedVariables false

def cmpI (x y : Int) : Int := if x < y then -1 else if y < x then 1 else 0
theorem u64wrap_pow {n : Nat} (h : n ≤ 6) : IntKind.u64.wrap ((2 : Int) ^ n) = ((2 ^ n : Nat) : Int) := by
  have h1 := pow_small h
  have e : (2 : Int) ^ n = ((2 ^ n : Nat) : Int) := by simp
  rw [e]
  generalize (2 : Nat) ^ n = m at *
  rw [IntKind.wrap_u64]
  omega

set_option maxRecDepth 100000 in
theorem with_any (g : Nat) (h : Int) (w : World) (hg : g < 128) (h0 : 0 ≤ h) (h1 : h ≤ 6) :
    Calls Try.prog 48 #[.int .u64 g, .int .i64 h] w fun e w' => e = .returned (.int .u64 ((g ||| 2 ^ h.toNat : Nat) : Int)) ∧ w = w' := by
  have hp := pow_small (show h.toNat ≤ 6 by omega)
  go_enter Try.func48, Try.ntmps48
  go_wp2
  go_ret
  refine ⟨?_, rfl⟩
  have e : bits BinOp.or IntKind.u64 (g : Int) (IntKind.u64.wrap ((2 : Int) ^ h.toNat)) = ((g ||| 2 ^ h.toNat : Nat) : Int) := by
    rw [u64wrap_pow (by omega), u64_or_nat _ _ (by omega) (by omega)]
  simp [e]

set_option maxRecDepth 100000 in
theorem within_any (x y : Nat) (w : World) (hx : x < 128) (hy : y < 128) :
    Calls Try.prog 103 #[.int .u64 x, .int .u64 y] w fun e w' => e = .returned (.bool (tell (x &&& y = x))) ∧ w = w' := by
  go_enter Try.func103, Try.ntmps103
  go_wp2
  go_ret
  refine ⟨ret_bool ?_, rfl⟩
  rw [u64_andNot_nat _ _ (by omega) (by omega)]
  exact (beq_tell _ 0).trans (tell_congr (part_iff x y hx hy))

/-- The number before place k: -1 before the first. -/
def lastTo (l : List Int) : Nat → Int
  | 0 => -1
  | k + 1 => nth l k

theorem lastTo_ge {n : Int} {l : List Int} {k : Nat} (h : ∀ j, j < k → GrpAt 0 (n - 1) l j) : -1 ≤ lastTo l k := by
  cases k with
  | zero => exact Int.le_refl _
  | succ k => have := (h k (by omega)).1; show -1 ≤ nth l k; omega
theorem grpAt_iff {n : Int} {l : List Int} {k : Nat} (h : ∀ j, j < k → GrpAt 0 (n - 1) l j) : GrpAt 0 (n - 1) l k ↔ lastTo l k < nth l k ∧ nth l k < n := by
  have h0 := lastTo_ge h
  cases k with
  | zero =>
    have e : lastTo l 0 = -1 := rfl
    rw [e] at *
    unfold GrpAt
    constructor
    · intro ⟨a, b, _⟩; omega
    · intro ⟨a, b⟩; exact ⟨by omega, by omega, fun h => absurd h (by omega)⟩
  | succ k =>
    have e : lastTo l (k + 1) = nth l k := rfl
    rw [e] at *
    unfold GrpAt
    constructor
    · intro ⟨a, b, c⟩; exact ⟨c (by omega), by omega⟩
    · intro ⟨a, b⟩; exact ⟨by have := (h k (by omega)).1; omega, by omega, fun _ => a⟩

/-- The bits of what is checked so far. -/
theorem bitsTo_lt' {n : Int} {l : List Int} (hn : n ≤ 7) : ∀ k, (∀ j, j < k → GrpAt 0 (n - 1) l j) → bitsTo l k < 128
  | 0, _ => by simp [bitsTo]
  | k + 1, h => by
    have h1 := bitsTo_lt' hn k (fun j hj => h j (by omega))
    obtain ⟨h2, h3, _⟩ := h k (by omega)
    exact Nat.or_lt_two_pow (n := 7) h1 (pow_small (by omega))

/-- What 'setOf' gives. -/
noncomputable def setVal (n : Int) (l : List Int) : Value := if tell (IsGrp n l) = true then .tuple #[.int .u64 ((bitsOf l : Nat) : Int), .bool true] else .tuple #[.int .u64 0, .bool false]

set_option maxRecDepth 100000 in
set_option maxHeartbeats 400000 in
theorem setOf_any (a : Option Addr) (zs : List Int) (c : Nat) (n : Int) (w : World) (h : Ints w a zs) (hn : n ≤ 7) (hl : zs.length ≤ 9223372036854775807) :
    Calls Try.prog 45 #[.int .i64 n, .slice a zs.length c] w fun e w' => e = .returned (setVal n zs) ∧ w = w' := by
  go_enter Try.func45, Try.ntmps45
  go_wp2_with fail
  go_loop [6, 7, 12] (fun g t i => ∃ k : Nat, k ≤ zs.length ∧ i = .int .i64 k ∧ g = .int .u64 ((bitsTo zs k : Nat) : Int) ∧ t = .int .i64 (lastTo zs k) ∧ ∀ j, j < k → GrpAt 0 (n - 1) zs j)
    (fun _ _ i => zs.length - (intOf i).toNat)
  case atStart => exact ⟨0, Nat.zero_le _, rfl, rfl, rfl, fun j hj => absurd hj (Nat.not_lt_zero _)⟩
  case round =>
    obtain ⟨k, hk, rfl, rfl, rfl, hall⟩ := hrel
    have HA := Lib.hid hall
    by_cases hlt : k < zs.length
    · rcases h with h | ⟨b, o, rfl, hc⟩
      · rw [h] at hlt; exact absurd hlt (Nat.not_lt_zero _)
      have hcell := hc k hlt
      have hi0 : (k : Int) < (zs.length : Int) := by omega
      have hl0 := lastTo_ge hall
      clear hc hall
      by_cases h1 : lastTo zs k < nth zs k
      · have t1 : decide (nth zs k ≤ lastTo zs k) = false := by simp; omega
        by_cases h2 : nth zs k < n
        · have t2 : decide (n ≤ nth zs k) = false := by simp; omega
          have HG := Lib.hid ((grpAt_iff HA.out).2 ⟨h1, h2⟩)
          go_wp2_with (go_at_call 48; refine (with_any (bitsTo zs k) (nth zs k) w (bitsTo_lt' hn k HA.out) (by omega) (by omega)).mono ?_; rintro e w' ⟨rfl, rfl⟩)
          go_round
          case rel => exact ⟨k + 1, by omega, by go_num, rfl, rfl, rises_step HA.out HG.out⟩
          case measure => simp [intOf]; omega
        · have t2 : decide (n ≤ nth zs k) = true := by simp; omega
          have hno : ¬ IsGrp n zs := fun hg => h2 ((grpAt_iff HA.out).1 (hg k hlt)).2
          have HN := Lib.hid hno
          clear hno
          go_wp2
          go_ret2
          exact ⟨by rw [setVal, tell_false HN.out]; rfl, rfl⟩
      · have t1 : decide (nth zs k ≤ lastTo zs k) = true := by simp; omega
        have hno : ¬ IsGrp n zs := fun hg => h1 ((grpAt_iff HA.out).1 (hg k hlt)).1
        have HN := Lib.hid hno
        clear hno
        go_wp2
        go_ret2
        exact ⟨by rw [setVal, tell_false HN.out]; rfl, rfl⟩
    · have hy : IsGrp n zs := fun j hj => hall j (by omega)
      have HY := Lib.hid hy
      have HE := Lib.hid (show k = zs.length by omega)
      clear hy hall
      go_wp2
      go_ret2
      exact ⟨by rw [setVal, tell_true HY.out, HE.out]; rfl, rfl⟩
end Go.Proofs.Ytdfggbojccfblaa

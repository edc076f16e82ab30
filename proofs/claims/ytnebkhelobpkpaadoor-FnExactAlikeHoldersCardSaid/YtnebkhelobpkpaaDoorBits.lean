/- The contracts of the bits of groups, of the order of lists. -/
import Derived.Test.YtnebkhelobpkpaaDoorRise
namespace Go.Proofs.YtnebkhelobpkpaaDoor
open Go.RowKit Go.Deep
set_option linter.unusedVariables false

theorem i64_or_nat (a b : Nat) (ha : a < 9223372036854775808) (hb : b < 9223372036854775808) : bits .or .i64 (a : Int) (b : Int) = ((a ||| b : Nat) : Int) := by
  have hx : a ||| b < 2 ^ 63 := Nat.or_lt_two_pow (by omega) (by omega)
  have h1 : (BitVec.ofInt 64 (a : Int)).toNat = a := by
    rw [BitVec.ofInt_natCast, BitVec.toNat_ofNat]; exact Nat.mod_eq_of_lt (by omega)
  have h2 : (BitVec.ofInt 64 (b : Int)).toNat = b := by
    rw [BitVec.ofInt_natCast, BitVec.toNat_ofNat]; exact Nat.mod_eq_of_lt (by omega)
  show IntKind.i64.wrap ((BitVec.ofInt 64 (a : Int) ||| BitVec.ofInt 64 (b : Int)).toNat : Int) = _
  rw [BitVec.toNat_or, h1, h2, IntKind.wrap_i64]
  omega
theorem i64_and_nat (a b : Nat) (ha : a < 9223372036854775808) (hb : b < 9223372036854775808) : bits .and .i64 (a : Int) (b : Int) = ((a &&& b : Nat) : Int) := by
  have hx : a &&& b < 2 ^ 63 := Nat.and_lt_two_pow _ (by omega)
  have h1 : (BitVec.ofInt 64 (a : Int)).toNat = a := by
    rw [BitVec.ofInt_natCast, BitVec.toNat_ofNat]; exact Nat.mod_eq_of_lt (by omega)
  have h2 : (BitVec.ofInt 64 (b : Int)).toNat = b := by
    rw [BitVec.ofInt_natCast, BitVec.toNat_ofNat]; exact Nat.mod_eq_of_lt (by omega)
  show IntKind.i64.wrap ((BitVec.ofInt 64 (a : Int) &&& BitVec.ofInt 64 (b : Int)).toNat : Int) = _
  rw [BitVec.toNat_and, h1, h2, IntKind.wrap_i64]
  omega

theorem pow_small {n : Nat} (h : n ≤ 6) : (2 : Nat) ^ n < 128 := Nat.lt_of_lt_of_le (Nat.pow_lt_pow_right (by omega) (by omega : n < 7)) (by decide)
theorem wrap64_pow {n : Nat} (h : n ≤ 6) : wrap64 ((2 : Int) ^ n) = ((2 ^ n : Nat) : Int) := by
  have h1 := pow_small h
  have e : (2 : Int) ^ n = ((2 ^ n : Nat) : Int) := by simp
  rw [e]
  generalize (2 : Nat) ^ n = m at *
  unfold wrap64
  omega
theorem bits_step {g n : Nat} (hg : g < 128) (h : n ≤ 6) : bits BinOp.or IntKind.i64 (g : Int) (wrap64 ((2 : Int) ^ n)) = ((g ||| 2 ^ n : Nat) : Int) := by
  have h1 := pow_small h
  rw [wrap64_pow h, i64_or_nat _ _ (by omega) (by omega)]

set_option maxRecDepth 100000 in
set_option maxHeartbeats 400000 in
theorem l01Bits_any (a : Option Addr) (zs : List Int) (c : Nat) (n : Int) (w : World) (h : Ints w a zs) (hg : IsGrp n zs) (hn : n ≤ 7) (hl : zs.length ≤ 9223372036854775807) :
    Calls Tryd.prog 119 #[.slice a zs.length c] w fun e w' => e = .returned (.int .i64 (bitsOf zs : Nat)) ∧ w = w' := by
  have HG := Lib.hid hg
  clear hg
  go_enter Tryd.func119, Tryd.ntmps119
  go_wp2
  go_loop [3, 4] (fun g i => ∃ k : Nat, k ≤ zs.length ∧ i = .int .i64 k ∧ g = .int .i64 (bitsTo zs k : Nat))
    (fun _ i => zs.length - (intOf i).toNat)
  case atStart => exact ⟨0, Nat.zero_le _, rfl, rfl⟩
  case round =>
    obtain ⟨k, hk, rfl, rfl⟩ := hrel
    by_cases hlt : k < zs.length
    · rcases h with h | ⟨b, o, rfl, hc⟩
      · rw [h] at hlt; exact absurd hlt (Nat.not_lt_zero _)
      have hcell := hc k hlt
      have hb := HG.out k hlt
      have hz0 : 0 ≤ nth zs k := hb.1
      have hz1 : nth zs k ≤ 6 := by have := hb.2.1; omega
      clear hc hb
      go_wp2
      go_round
      case rel => exact ⟨k + 1, by omega, by go_num, by rw [bits_step (bitsTo_lt HG.out hn k (by omega)) (by omega)]; rfl⟩
      case measure => simp [intOf]; omega
    · go_wp2
      go_ret
      exact ⟨by rw [show k = zs.length by omega]; rfl, rfl⟩

set_option maxRecDepth 100000 in
theorem l01Group_any (a : Option Addr) (zs : List Int) (c : Nat) (n : Int) (w : World) (h : Ints w a zs) (hl : zs.length ≤ 9223372036854775807) (h0 : -9223372036854775807 ≤ n) (h1 : n ≤ 9223372036854775807) :
    Calls Tryd.prog 75 #[.int .i64 n, .slice a zs.length c] w fun e w' => e = .returned (.bool (tell (IsGrp n zs))) ∧ Quiet w w' := by
  go_enter Tryd.func75, Tryd.ntmps75
  go_wp2_with fail
  refine (l00Rises_any a zs c 0 (n - 1) w h hl).mono ?_
  rintro e w' ⟨rfl, hq⟩
  go_wp2
  go_ret
  exact ⟨rfl, hq⟩

set_option maxRecDepth 100000 in
theorem l01Within_any (a b : Option Addr) (xs ys : List Int) (ca cb : Nat) (n : Int) (w : World) (ha : Ints w a xs) (hb : Ints w b ys) (hx : IsGrp n xs) (hy : IsGrp n ys) (hn : n ≤ 7) (hlx : xs.length ≤ 9223372036854775807) (hly : ys.length ≤ 9223372036854775807) :
    Calls Tryd.prog 77 #[.slice a xs.length ca, .slice b ys.length cb] w fun e w' => e = .returned (.bool (tell (Part xs ys))) ∧ w = w' := by
  have HX := Lib.hid hx
  have HY := Lib.hid hy
  clear hx hy
  go_enter Tryd.func77, Tryd.ntmps77
  go_wp2_with fail
  refine (l01Bits_any a xs ca n w ha HX.out hn hlx).mono ?_
  rintro e w' ⟨rfl, rfl⟩
  go_wp2_with fail
  refine (l01Bits_any b ys cb n w hb HY.out hn hly).mono ?_
  rintro e w' ⟨rfl, rfl⟩
  go_wp2
  go_ret
  have h1 := bitsOf_lt HX.out hn
  have h2 := bitsOf_lt HY.out hn
  exact ⟨ret_bool (by rw [i64_and_nat _ _ (by omega) (by omega), beq_tell]; rfl), rfl⟩

set_option maxRecDepth 100000 in
set_option maxHeartbeats 400000 in
theorem l01Before_any (a b : Option Addr) (xs ys : List Int) (ca cb : Nat) (w : World) (ha : Ints w a xs) (hb : Ints w b ys) (hlx : xs.length ≤ 9223372036854775807) (hly : ys.length ≤ 9223372036854775807) :
    Calls Tryd.prog 76 #[.slice a xs.length ca, .slice b ys.length cb] w fun e w' => e = .returned (.bool (tell (Before xs ys))) ∧ Quiet w w' := by
  go_enter Tryd.func76, Tryd.ntmps76
  go_wp2
  go_loopw [5] (fun i wr => ∃ k : Nat, k ≤ xs.length ∧ k ≤ ys.length ∧ i = .int .i64 k ∧ Quiet w wr ∧ lexCmp xs ys = lexCmp (xs.drop k) (ys.drop k))
    (fun i _ => xs.length - (intOf i).toNat)
  case atStart => exact ⟨0, Nat.zero_le _, Nat.zero_le _, rfl, Quiet.refl _, rfl⟩
  case round =>
    obtain ⟨k, hkx, hky, rfl, hq, hlex⟩ := hrel
    have HQ := Lib.hid hq
    have HL := Lib.hid hlex
    have hax := ha.quiet hq
    have hbx := hb.quiet hq
    clear hlex hq
    by_cases hltx : k < xs.length
    · by_cases hlty : k < ys.length
      · rcases hax with h | ⟨b1, o1, rfl, hc1⟩
        · rw [h] at hltx; exact absurd hltx (Nat.not_lt_zero _)
        rcases hbx with h | ⟨b2, o2, rfl, hc2⟩
        · rw [h] at hlty; exact absurd hlty (Nat.not_lt_zero _)
        have g1 := hc1 k hltx
        have g2 := hc2 k hlty
        have hix : (k : Int) < (xs.length : Int) := by omega
        have hiy : (k : Int) < (ys.length : Int) := by omega
        have hst := Lib.hid (lexCmp_drop hltx hlty)
        clear hc1 hc2
        by_cases hne : nth xs k = nth ys k
        · have t1 : (nth xs k != nth ys k) = false := by simp [hne]
          have HN := Lib.hid hne
          clear hne
          go_wp2
          go_quiet (fail)
          go_wp2
          go_roundw
          case rel => exact ⟨k + 1, by omega, by omega, by go_num, HQ.out.trans ⟨_, rfl⟩, by rw [HL.out, hst.out, HN.out]; simp⟩
          case measure => simp [intOf]; omega
        · have t1 : (nth xs k != nth ys k) = true := by simp [hne]
          have HN := Lib.hid hne
          clear hne
          go_wp2
          go_quiet (fail)
          go_wp2
          go_quiet (fail)
          go_wp2
          go_ret
          refine ⟨ret_bool ?_, HQ.out.trans (Quiet.trans ⟨_, rfl⟩ ⟨_, rfl⟩)⟩
          have hne := HN.out
          rw [decide_tell]
          refine tell_congr ?_
          unfold Before
          rw [HL.out, hst.out]
          by_cases h1 : nth xs k < nth ys k
          · simp [h1]
          · rw [if_neg h1, if_pos (by omega)]; simp [h1]
      · have t2 : decide ((k : Int) < (ys.length : Int)) = false := by simp; omega
        have t3 : ys.length < xs.length := by omega
        have hst := Lib.hid (lexCmp_right hltx (by omega : ys.length ≤ k))
        go_wp2
        go_ret
        refine ⟨ret_bool ?_, HQ.out⟩
        rw [decide_tell]
        refine tell_congr ?_
        unfold Before
        rw [HL.out, hst.out]
        omega
    · go_wp2
      go_ret
      refine ⟨ret_bool ?_, HQ.out⟩
      rw [decide_tell]
      refine tell_congr ?_
      unfold Before
      rw [HL.out]
      by_cases hlty : k < ys.length
      · rw [lexCmp_left (by omega) hlty]; omega
      · rw [lexCmp_end (by omega) (by omega)]; omega
end Go.Proofs.YtnebkhelobpkpaaDoor

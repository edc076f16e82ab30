/- Groups, their bits, and the checks of them (over the kit Ka). -/
import Derived.Test.YtnebkhelobpkpaaKa
namespace Go.Proofs.Ytnebkhelobpkpaa
open Go.RowKit Go.Deep
set_option linter.unusedVariables false

theorem beq_tell (x y : Nat) : (((x : Nat) : Int) == ((y : Nat) : Int)) = tell (x = y) := by
  by_cases h : x = y
  · rw [tell_true h, h]; simp
  · rw [tell_false h]; simp; omega
def GrpAt (lo hi : Int) (l : List Int) (i : Nat) : Prop := lo ≤ nth l i ∧ nth l i ≤ hi ∧ (0 < i → nth l (i - 1) < nth l i)
/-- 'l00Rises': the numbers rise, within bounds. -/
def Rises (lo hi : Int) (l : List Int) : Prop := ∀ i, i < l.length → GrpAt lo hi l i
def IsGrp (n : Int) (l : List Int) : Prop := Rises 0 (n - 1) l
theorem rises_step {lo hi : Int} {l : List Int} {k : Nat} (h : ∀ i, i < k → GrpAt lo hi l i) (hk : GrpAt lo hi l k) : ∀ i, i < k + 1 → GrpAt lo hi l i := fun i hi => by
  by_cases e : i = k
  · subst e; exact hk
  · exact h i (by omega)
def bitsTo (l : List Int) : Nat → Nat
  | 0 => 0
  | k + 1 => bitsTo l k ||| 2 ^ (nth l k).toNat
def bitsOf (l : List Int) : Nat := bitsTo l l.length
theorem bitsTo_lt {n : Int} {l : List Int} (h : IsGrp n l) (hn : n ≤ 7) : ∀ k, k ≤ l.length → bitsTo l k < 128
  | 0, _ => by simp [bitsTo]
  | k + 1, hk => by
    have h1 := bitsTo_lt h hn k (by omega)
    obtain ⟨h2, h3, _⟩ := h k (by omega)
    have h4 : (2 : Nat) ^ (nth l k).toNat < 2 ^ 7 := Nat.pow_lt_pow_right (by omega) (by omega)
    exact Nat.or_lt_two_pow (n := 7) h1 h4
theorem bitsOf_lt {n : Int} {l : List Int} (h : IsGrp n l) (hn : n ≤ 7) : bitsOf l < 128 := bitsTo_lt h hn _ (Nat.le_refl _)
set_option maxRecDepth 100000 in
set_option maxHeartbeats 400000 in
theorem l00Rises_any (a : Option Addr) (zs : List Int) (c : Nat) (lo hi : Int) (w : World) (h : Ints w a zs) (hl : zs.length ≤ 9223372036854775807) :
    Calls Try.prog 173 #[.slice a zs.length c, .int .i64 lo, .int .i64 hi] w fun e w' => e = .returned (.bool (tell (Rises lo hi zs))) ∧ Quiet w w' := by
  go_enter Try.func173, Try.ntmps173
  go_wp2
  go_loopw [7] (fun i wr => ∃ k : Nat, k ≤ zs.length ∧ i = .int .i64 k ∧ Quiet w wr ∧ ∀ j, j < k → GrpAt lo hi zs j)
    (fun i _ => zs.length - (intOf i).toNat)
  case atStart => exact ⟨0, Nat.zero_le _, rfl, Quiet.refl _, fun j hj => absurd hj (Nat.not_lt_zero _)⟩
  case round =>
    obtain ⟨k, hk, rfl, hq, hsm⟩ := hrel
    have HS := Lib.hid hsm
    have HQ := Lib.hid hq
    by_cases hlt : k < zs.length
    · rcases h.quiet hq with h | ⟨b, o, rfl, hc⟩
      · rw [h] at hlt; exact absurd hlt (Nat.not_lt_zero _)
      have hcell := hc k hlt
      have hi0 : (k : Int) < (zs.length : Int) := by omega
      have hcell1 := hc (k - 1) (by omega)
      clear hc hq hsm
      by_cases hr : lo ≤ nth zs k ∧ nth zs k ≤ hi
      · have hin : (decide (lo ≤ nth zs k) && decide (nth zs k ≤ hi)) = true := by simp [hr]
        by_cases hk0 : k = 0
        · have hd : decide (0 < k) = false := by simp; omega
          have HI := Lib.hid hin
          have HR := Lib.hid hr
          have HK := Lib.hid hk0
          clear hin hr hk0 hcell1
          go_wp2
          go_quiet ((go_at_call 47; exact Calls.quiet_of_same (swapped (l00In_val _ _ _ _ _ HI.out))))
          go_wp2
          go_roundw
          case rel => exact ⟨k + 1, by omega, by go_num, HQ.out.trans ⟨_, rfl⟩, rises_step HS.out ⟨HR.out.1, HR.out.2, fun h0 => by have := HK.out; omega⟩⟩
          case measure => simp [intOf]; omega
        · have hd : 0 < k := by omega
          have hd1 : (1 : Int) ≤ (k : Int) := by omega
          have HI := Lib.hid hin
          have HR := Lib.hid hr
          clear hin hr hk0
          by_cases hord : nth zs (k - 1) < nth zs k
          · have hord' : decide (nth zs k ≤ nth zs (k - 1)) = false := by simp; omega
            have HO := Lib.hid hord
            clear hord
            go_wp2
            go_quiet ((go_at_call 47; exact Calls.quiet_of_same (swapped (l00In_val _ _ _ _ _ HI.out))))
            go_wp2
            go_roundw
            case rel => exact ⟨k + 1, by omega, by go_num, HQ.out.trans ⟨_, rfl⟩, rises_step HS.out ⟨HR.out.1, HR.out.2, fun _ => HO.out⟩⟩
            case measure => simp [intOf]; omega
          · have hord' : decide (nth zs k ≤ nth zs (k - 1)) = true := by simp; omega
            have hno : ¬ Rises lo hi zs := fun hh => hord ((hh k hlt).2.2 (by omega))
            have HO := Lib.hid hno
            clear hord hno
            go_wp2
            go_quiet ((go_at_call 47; exact Calls.quiet_of_same (swapped (l00In_val _ _ _ _ _ HI.out))))
            go_wp2
            go_ret
            exact ⟨by rw [tell_false HO.out]; rfl, HQ.out.trans ⟨_, rfl⟩⟩
      · have hin : (decide (lo ≤ nth zs k) && decide (nth zs k ≤ hi)) = false := by simp; omega
        have hno : ¬ Rises lo hi zs := fun hh => hr ⟨(hh k hlt).1, (hh k hlt).2.1⟩
        have HI := Lib.hid hin
        have HO := Lib.hid hno
        clear hin hr hno hcell1
        go_wp2
        go_quiet ((go_at_call 47; exact Calls.quiet_of_same (swapped (l00In_val _ _ _ _ _ HI.out))))
        go_wp2
        go_ret
        exact ⟨by rw [tell_false HO.out]; rfl, HQ.out.trans ⟨_, rfl⟩⟩
    · have hyes : Rises lo hi zs := fun j hj => hsm j (by omega)
      have HY := Lib.hid hyes
      clear hyes hsm hq
      go_wp2
      go_ret
      exact ⟨by rw [tell_true HY.out]; rfl, HQ.out⟩
theorem pow_small {n : Nat} (h : n ≤ 6) : (2 : Nat) ^ n < 128 := Nat.lt_of_lt_of_le (Nat.pow_lt_pow_right (by omega) (by omega : n < 7)) (by decide)
theorem i64_or_nat (a b : Nat) (ha : a < 9223372036854775808) (hb : b < 9223372036854775808) : bits .or .i64 (a : Int) (b : Int) = ((a ||| b : Nat) : Int) := by
  have hx : a ||| b < 2 ^ 63 := Nat.or_lt_two_pow (by omega) (by omega)
  have h1 : (BitVec.ofInt 64 (a : Int)).toNat = a := by
    rw [BitVec.ofInt_natCast, BitVec.toNat_ofNat]; exact Nat.mod_eq_of_lt (by omega)
  have h2 : (BitVec.ofInt 64 (b : Int)).toNat = b := by
    rw [BitVec.ofInt_natCast, BitVec.toNat_ofNat]; exact Nat.mod_eq_of_lt (by omega)
  show IntKind.i64.wrap ((BitVec.ofInt 64 (a : Int) ||| BitVec.ofInt 64 (b : Int)).toNat : Int) = _
  rw [BitVec.toNat_or, h1, h2, IntKind.wrap_i64]
  omega
theorem i64_and_nat (a b : Nat) (ha : a < 9223372036854775808) (hb : b < 9223372036854775808) : bits .and .i64 (a : Int) (b : Int) = ((a &&& b : Nat) : Int) := by
  have hx : a &&& b < 2 ^ 63 := Nat.and_lt_two_pow _ (by omega)
  have h1 : (BitVec.ofInt 64 (a : Int)).toNat = a := by
    rw [BitVec.ofInt_natCast, BitVec.toNat_ofNat]; exact Nat.mod_eq_of_lt (by omega)
  have h2 : (BitVec.ofInt 64 (b : Int)).toNat = b := by
    rw [BitVec.ofInt_natCast, BitVec.toNat_ofNat]; exact Nat.mod_eq_of_lt (by omega)
  show IntKind.i64.wrap ((BitVec.ofInt 64 (a : Int) &&& BitVec.ofInt 64 (b : Int)).toNat : Int) = _
  rw [BitVec.toNat_and, h1, h2, IntKind.wrap_i64]
  omega
theorem wrap64_pow {n : Nat} (h : n ≤ 6) : wrap64 ((2 : Int) ^ n) = ((2 ^ n : Nat) : Int) := by
  have h1 := pow_small h
  have e : (2 : Int) ^ n = ((2 ^ n : Nat) : Int) := by simp
  rw [e]
  generalize (2 : Nat) ^ n = m at *
  unfold wrap64
  omega
theorem bits_step {g n : Nat} (hg : g < 128) (h : n ≤ 6) : bits BinOp.or IntKind.i64 (g : Int) (wrap64 ((2 : Int) ^ n)) = ((g ||| 2 ^ n : Nat) : Int) := by
  have h1 := pow_small h
  rw [wrap64_pow h, i64_or_nat _ _ (by omega) (by omega)]
set_option maxRecDepth 100000 in
theorem l01Group_any (a : Option Addr) (zs : List Int) (c : Nat) (n : Int) (w : World) (h : Ints w a zs) (hl : zs.length ≤ 9223372036854775807) (h0 : -9223372036854775807 ≤ n) (h1 : n ≤ 9223372036854775807) :
    Calls Try.prog 156 #[.int .i64 n, .slice a zs.length c] w fun e w' => e = .returned (.bool (tell (IsGrp n zs))) ∧ Quiet w w' := by
  go_enter Try.func156, Try.ntmps156
  go_wp2_with fail
  refine (l00Rises_any a zs c 0 (n - 1) w h hl).mono ?_
  rintro e w' ⟨rfl, hq⟩
  go_wp2
  go_ret
  exact ⟨rfl, hq⟩
theorem u64wrap_pow {n : Nat} (h : n ≤ 6) : IntKind.u64.wrap ((2 : Int) ^ n) = ((2 ^ n : Nat) : Int) := by
  have h1 := pow_small h
  have e : (2 : Int) ^ n = ((2 ^ n : Nat) : Int) := by simp
  rw [e]
  generalize (2 : Nat) ^ n = m at *
  rw [IntKind.wrap_u64]
  omega
set_option maxRecDepth 100000 in
theorem with_any (g : Nat) (h : Int) (w : World) (hg : g < 128) (h0 : 0 ≤ h) (h1 : h ≤ 6) :
    Calls Try.prog 171 #[.int .u64 g, .int .i64 h] w fun e w' => e = .returned (.int .u64 ((g ||| 2 ^ h.toNat : Nat) : Int)) ∧ w = w' := by
  have hp := pow_small (show h.toNat ≤ 6 by omega)
  go_enter Try.func171, Try.ntmps171
  go_wp2
  go_ret
  refine ⟨?_, rfl⟩
  have e : bits BinOp.or IntKind.u64 (g : Int) (IntKind.u64.wrap ((2 : Int) ^ h.toNat)) = ((g ||| 2 ^ h.toNat : Nat) : Int) := by
    rw [u64wrap_pow (by omega), u64_or_nat _ _ (by omega) (by omega)]
  simp [e]
/-- The number before place k: -1 before the first. -/
def lastTo (l : List Int) : Nat → Int
  | 0 => -1
  | k + 1 => nth l k
theorem lastTo_ge {n : Int} {l : List Int} {k : Nat} (h : ∀ j, j < k → GrpAt 0 (n - 1) l j) : -1 ≤ lastTo l k := by
  cases k with
  | zero => exact Int.le_refl _
  | succ k => have := (h k (by omega)).1; show -1 ≤ nth l k; omega
theorem grpAt_iff {n : Int} {l : List Int} {k : Nat} (h : ∀ j, j < k → GrpAt 0 (n - 1) l j) : GrpAt 0 (n - 1) l k ↔ lastTo l k < nth l k ∧ nth l k < n := by
  have h0 := lastTo_ge h
  cases k with
  | zero =>
    have e : lastTo l 0 = -1 := rfl
    rw [e] at *
    unfold GrpAt
    constructor
    · intro ⟨a, b, _⟩; omega
    · intro ⟨a, b⟩; exact ⟨by omega, by omega, fun h => absurd h (by omega)⟩
  | succ k =>
    have e : lastTo l (k + 1) = nth l k := rfl
    rw [e] at *
    unfold GrpAt
    constructor
    · intro ⟨a, b, c⟩; exact ⟨c (by omega), by omega⟩
    · intro ⟨a, b⟩; exact ⟨by have := (h k (by omega)).1; omega, by omega, fun _ => a⟩
/-- The bits of what is checked so far. -/
theorem bitsTo_lt' {n : Int} {l : List Int} (hn : n ≤ 7) : ∀ k, (∀ j, j < k → GrpAt 0 (n - 1) l j) → bitsTo l k < 128
  | 0, _ => by simp [bitsTo]
  | k + 1, h => by
    have h1 := bitsTo_lt' hn k (fun j hj => h j (by omega))
    obtain ⟨h2, h3, _⟩ := h k (by omega)
    exact Nat.or_lt_two_pow (n := 7) h1 (pow_small (by omega))
/-- What 'setOf' gives. -/
noncomputable def setVal (n : Int) (l : List Int) : Value := if tell (IsGrp n l) = true then .tuple #[.int .u64 ((bitsOf l : Nat) : Int), .bool true] else .tuple #[.int .u64 0, .bool false]
set_option maxRecDepth 100000 in
set_option maxHeartbeats 400000 in
theorem setOf_any (a : Option Addr) (zs : List Int) (c : Nat) (n : Int) (w : World) (h : Ints w a zs) (hn : n ≤ 7) (hl : zs.length ≤ 9223372036854775807) :
    Calls Try.prog 161 #[.int .i64 n, .slice a zs.length c] w fun e w' => e = .returned (setVal n zs) ∧ w = w' := by
  go_enter Try.func161, Try.ntmps161
  go_wp2_with fail
  go_loop [6, 7, 12] (fun g t i => ∃ k : Nat, k ≤ zs.length ∧ i = .int .i64 k ∧ g = .int .u64 ((bitsTo zs k : Nat) : Int) ∧ t = .int .i64 (lastTo zs k) ∧ ∀ j, j < k → GrpAt 0 (n - 1) zs j)
    (fun _ _ i => zs.length - (intOf i).toNat)
  case atStart => exact ⟨0, Nat.zero_le _, rfl, rfl, rfl, fun j hj => absurd hj (Nat.not_lt_zero _)⟩
  case round =>
    obtain ⟨k, hk, rfl, rfl, rfl, hall⟩ := hrel
    have HA := Lib.hid hall
    by_cases hlt : k < zs.length
    · rcases h with h | ⟨b, o, rfl, hc⟩
      · rw [h] at hlt; exact absurd hlt (Nat.not_lt_zero _)
      have hcell := hc k hlt
      have hi0 : (k : Int) < (zs.length : Int) := by omega
      have hl0 := lastTo_ge hall
      clear hc hall
      by_cases h1 : lastTo zs k < nth zs k
      · have t1 : decide (nth zs k ≤ lastTo zs k) = false := by simp; omega
        by_cases h2 : nth zs k < n
        · have t2 : decide (n ≤ nth zs k) = false := by simp; omega
          have HG := Lib.hid ((grpAt_iff HA.out).2 ⟨h1, h2⟩)
          go_wp2_with (go_at_call 171; refine (with_any (bitsTo zs k) (nth zs k) w (bitsTo_lt' hn k HA.out) (by omega) (by omega)).mono ?_; rintro e w' ⟨rfl, rfl⟩)
          go_round
          case rel => exact ⟨k + 1, by omega, by go_num, rfl, rfl, rises_step HA.out HG.out⟩
          case measure => simp [intOf]; omega
        · have t2 : decide (n ≤ nth zs k) = true := by simp; omega
          have hno : ¬ IsGrp n zs := fun hg => h2 ((grpAt_iff HA.out).1 (hg k hlt)).2
          have HN := Lib.hid hno
          clear hno
          go_wp2
          go_ret2
          exact ⟨by rw [setVal, tell_false HN.out]; rfl, rfl⟩
      · have t1 : decide (nth zs k ≤ lastTo zs k) = true := by simp; omega
        have hno : ¬ IsGrp n zs := fun hg => h1 ((grpAt_iff HA.out).1 (hg k hlt)).1
        have HN := Lib.hid hno
        clear hno
        go_wp2
        go_ret2
        exact ⟨by rw [setVal, tell_false HN.out]; rfl, rfl⟩
    · have hy : IsGrp n zs := fun j hj => hall j (by omega)
      have HY := Lib.hid hy
      have HE := Lib.hid (show k = zs.length by omega)
      clear hy hall
      go_wp2
      go_ret2
      exact ⟨by rw [setVal, tell_true HY.out, HE.out]; rfl, rfl⟩
theorem has_fact : ∀ x : Nat, x < 128 → ∀ n : Nat, n < 7 → (bits BinOp.and IntKind.u64 ((x : Int) / 2 ^ n) 1 == 1) = x.testBit n := by decide +kernel
set_option maxRecDepth 100000 in
theorem has_any (x : Nat) (h : Int) (w : World) (hx : x < 128) (h0 : 0 ≤ h) (h1 : h ≤ 6) : Calls Try.prog 153 #[.int .u64 x, .int .i64 h] w fun e w' => e = .returned (.bool (x.testBit h.toNat)) ∧ w = w' := by
  go_enter Try.func153, Try.ntmps153
  go_wp2
  go_ret
  exact ⟨ret_bool (has_fact x hx h.toNat (by omega)), rfl⟩
def HasIn (zs : List Int) (n : Int) : Prop := ∃ i, i < zs.length ∧ nth zs i = n
set_option maxRecDepth 100000 in
theorem l00Has_any (a : Option Addr) (zs : List Int) (c : Nat) (n : Int) (w : World) (h : Ints w a zs) (hl : zs.length ≤ 9223372036854775807) :
    Calls Try.prog 131 #[.slice a zs.length c, .int .i64 n] w fun e w' => e = .returned (.bool (tell (HasIn zs n))) ∧ w = w' := by
  go_enter Try.func131, Try.ntmps131
  go_wp2_with fail
  go_loop [5] (fun i => ∃ k : Nat, i = .int .i64 k ∧ k ≤ zs.length ∧ ∀ j, j < k → nth zs j ≠ n) (fun i => zs.length - (intOf i).toNat)
  case atStart => exact ⟨0, rfl, Nat.zero_le _, fun j hj => absurd hj (Nat.not_lt_zero _)⟩
  case round =>
    obtain ⟨k, rfl, hk, hs⟩ := hrel
    have HS := Lib.hid hs
    clear hs
    by_cases hlt : k < zs.length
    · rcases h with h | ⟨b, o, rfl, hc⟩
      · rw [h] at hlt; exact absurd hlt (Nat.not_lt_zero _)
      have hcell := hc k hlt
      have hi0 : (k : Int) < (zs.length : Int) := by omega
      clear hc
      by_cases he : nth zs k = n
      · have hq : (nth zs k == n) = true := by simp [he]
        have HN := Lib.hid (tell_true (p := HasIn zs n) ⟨k, hlt, he⟩)
        clear he
        go_wp2_with fail
        go_ret
        exact ⟨ret_bool HN.out.symm, rfl⟩
      · have hq : (nth zs k == n) = false := by simp [he]
        have HE := Lib.hid he
        clear he
        go_wp2_with fail
        go_round
        case rel => exact ⟨k + 1, by go_num, by omega, fun j hj => by
          by_cases e : j = k
          · subst e; exact HE.out
          · exact HS.out j (by omega)⟩
        case measure => simp [intOf]; omega
    · have HN := Lib.hid (tell_false (p := HasIn zs n) (fun ⟨i, h1, h2⟩ => HS.out i (by omega) h2))
      go_wp2_with fail
      go_ret
      exact ⟨ret_bool HN.out.symm, rfl⟩
theorem bitsTo_bit (zs : List Int) (j : Nat) : ∀ k, (bitsTo zs k).testBit j = true ↔ ∃ i, i < k ∧ (nth zs i).toNat = j
  | 0 => by simp [bitsTo]
  | k + 1 => by
    show (bitsTo zs k ||| 2 ^ (nth zs k).toNat).testBit j = true ↔ _
    rw [Nat.testBit_or, Bool.or_eq_true, bitsTo_bit zs j k, Nat.testBit_two_pow, decide_eq_true_eq]
    constructor
    · rintro (⟨i, h1, h2⟩ | h1)
      · exact ⟨i, by omega, h2⟩
      · exact ⟨k, by omega, h1⟩
    · rintro ⟨i, h1, h2⟩
      by_cases e : i = k
      · subst e; exact .inr h2
      · exact .inl ⟨i, by omega, h2⟩
theorem has_bits {n : Int} {gs : List Int} (hg : IsGrp n gs) {x : Int} (h0 : 0 ≤ x) : (bitsOf gs).testBit x.toNat = tell (HasIn gs x) := by
  have h := bitsTo_bit gs x.toNat gs.length
  by_cases hh : HasIn gs x
  · rw [tell_true hh]
    obtain ⟨i, h1, h2⟩ := hh
    exact h.2 ⟨i, h1, by rw [h2]⟩
  · rw [tell_false hh]
    cases hb : (bitsOf gs).testBit x.toNat with
    | false => rfl
    | true =>
      obtain ⟨i, h1, h2⟩ := h.1 hb
      have := (hg i h1).1
      exact absurd ⟨i, h1, by omega⟩ hh
/-- The numbers below k that are chosen. -/
def pickTo (P : Nat → Bool) (k : Nat) : List Int := ((List.range k).filter P).map fun (i : Nat) => (i : Int)
theorem pickTo_hit {P : Nat → Bool} {k : Nat} (h : P k = true) : pickTo P (k + 1) = pickTo P k ++ [(k : Int)] := by
  simp [pickTo, List.range_succ, List.filter_append, h]
theorem pickTo_miss {P : Nat → Bool} {k : Nat} (h : P k = false) : pickTo P (k + 1) = pickTo P k := by
  simp [pickTo, List.range_succ, List.filter_append, h]
theorem pickTo_len (P : Nat → Bool) (k : Nat) : (pickTo P k).length ≤ k := by
  simp only [pickTo, List.length_map]
  exact Nat.le_trans (List.length_filter_le _ _) (by simp)
end Go.Proofs.Ytnebkhelobpkpaa

/- The contracts of the program's checks of groups: cmp.Compare, slices.Compare, with, within, setOf, hasParts. -/
import Derived.Test.YtnebkhelobpkpaaDoorOk
namespace Go.Proofs.YtnebkhelobpkpaaDoor
open Go.RowKit Go.Deep
set_option linter.unusedVariables false

set_option maxRecDepth 100000 in
theorem isNaN_any (x : Int) (w : World) : Calls Tryd.prog 170 #[.int .i64 x] w fun e w' => e = .returned (.bool false) ∧ w = w' := by
  go_enter Tryd.func170, Tryd.ntmps170
  go_wp2
  go_ret
  exact ⟨by simp, rfl⟩

def cmpI (x y : Int) : Int := if x < y then -1 else if y < x then 1 else 0
set_option maxRecDepth 100000 in
theorem cmpCompare_any (x y : Int) (w : World) : Calls Tryd.prog 162 #[.int .i64 x, .int .i64 y] w fun e w' => e = .returned (.int .i64 (cmpI x y)) ∧ w = w' := by
  by_cases h1 : x < y
  · go_enter Tryd.func162, Tryd.ntmps162
    go_wp2_with (go_at_call 170; refine (isNaN_any _ _).mono ?_; rintro e w' ⟨rfl, rfl⟩)
    go_ret
    exact ⟨ret_i64 (by simp [cmpI, h1]), rfl⟩
  · by_cases h2 : y < x
    · go_enter Tryd.func162, Tryd.ntmps162
      go_wp2_with (go_at_call 170; refine (isNaN_any _ _).mono ?_; rintro e w' ⟨rfl, rfl⟩)
      go_ret
      exact ⟨ret_i64 (by simp [cmpI, h1, h2]), rfl⟩
    · go_enter Tryd.func162, Tryd.ntmps162
      go_wp2_with (go_at_call 170; refine (isNaN_any _ _).mono ?_; rintro e w' ⟨rfl, rfl⟩)
      go_ret
      exact ⟨ret_i64 (by unfold cmpI; rw [if_neg (by omega), if_neg (by omega)]), rfl⟩

set_option maxRecDepth 100000 in
set_option maxHeartbeats 400000 in
theorem slicesCompare_any (a b : Option Addr) (xs ys : List Int) (ca cb : Nat) (w : World) (ha : Ints w a xs) (hb : Ints w b ys) (hlx : xs.length ≤ 9223372036854775807) (hly : ys.length ≤ 9223372036854775807) :
    Calls Tryd.prog 151 #[.slice a xs.length ca, .slice b ys.length cb] w fun e w' => e = .returned (.int .i64 (lexCmp xs ys)) ∧ w = w' := by
  go_enter Tryd.func151, Tryd.ntmps151
  go_wp2_with fail
  go_loop [11] (fun i => ∃ k : Nat, k ≤ xs.length ∧ k ≤ ys.length ∧ i = .int .i64 k ∧ lexCmp xs ys = lexCmp (xs.drop k) (ys.drop k))
    (fun i => xs.length - (intOf i).toNat)
  case atStart => exact ⟨0, Nat.zero_le _, Nat.zero_le _, rfl, rfl⟩
  case round =>
    obtain ⟨k, hkx, hky, rfl, hlex⟩ := hrel
    have HL := Lib.hid hlex
    clear hlex
    by_cases hltx : k < xs.length
    · rcases ha with h | ⟨b1, o1, rfl, hc1⟩
      · rw [h] at hltx; exact absurd hltx (Nat.not_lt_zero _)
      have g1 := hc1 k hltx
      have hix : (k : Int) < (xs.length : Int) := by omega
      by_cases hlty : k < ys.length
      · rcases hb with h | ⟨b2, o2, rfl, hc2⟩
        · rw [h] at hlty; exact absurd hlty (Nat.not_lt_zero _)
        have g2 := hc2 k hlty
        have hiy : (k : Int) < (ys.length : Int) := by omega
        have hst := Lib.hid (lexCmp_drop hltx hlty)
        clear hc1 hc2
        by_cases hne : nth xs k = nth ys k
        · have hcm := Lib.hid (show cmpI (nth xs k) (nth ys k) = 0 by simp [cmpI, hne])
          have HN := Lib.hid hne
          clear hne
          go_wp2_with fail
          refine (cmpCompare_any (nth xs k) (nth ys k) w).mono ?_
          rintro e w' ⟨rfl, rfl⟩
          rw [hcm.out]
          go_wp2
          go_round
          case rel => exact ⟨k + 1, by omega, by omega, by go_num, by rw [HL.out, hst.out, HN.out]; simp⟩
          case measure => simp [intOf]; omega
        · have hcm : lexCmp xs ys = cmpI (nth xs k) (nth ys k) := by
            rw [HL.out, hst.out]
            unfold cmpI
            by_cases h1 : nth xs k < nth ys k
            · rw [if_pos h1, if_pos h1]
            · rw [if_neg h1, if_neg h1, if_pos (by omega), if_pos (by omega)]
          have hnz : (cmpI (nth xs k) (nth ys k) != 0) = true := by
            unfold cmpI
            by_cases h1 : nth xs k < nth ys k
            · rw [if_pos h1]; rfl
            · rw [if_neg h1, if_pos (by omega)]; rfl
          have HCM := Lib.hid hcm
          clear hne hcm
          go_wp2_with fail
          refine (cmpCompare_any (nth xs k) (nth ys k) w).mono ?_
          rintro e w' ⟨rfl, rfl⟩
          go_wp2
          go_ret
          exact ⟨ret_i64 HCM.out.symm, rfl⟩
      · have hst := Lib.hid (lexCmp_right hltx (by omega : ys.length ≤ k))
        have t3 : (ys.length : Int) ≤ (k : Int) := by omega
        clear hc1
        go_wp2
        go_ret
        exact ⟨ret_i64 (by rw [HL.out, hst.out]), rfl⟩
    · by_cases hlty : xs.length < ys.length
      · have hst := Lib.hid (lexCmp_left (a := xs) (b := ys) (k := k) (by omega) (by omega))
        go_wp2
        go_ret
        exact ⟨ret_i64 (by rw [HL.out, hst.out]), rfl⟩
      · have hst := Lib.hid (lexCmp_end (a := xs) (b := ys) (k := k) (by omega) (by omega))
        go_wp2
        go_ret
        exact ⟨ret_i64 (by rw [HL.out, hst.out]), rfl⟩

theorem u64wrap_pow {n : Nat} (h : n ≤ 6) : IntKind.u64.wrap ((2 : Int) ^ n) = ((2 ^ n : Nat) : Int) := by
  have h1 := pow_small h
  have e : (2 : Int) ^ n = ((2 ^ n : Nat) : Int) := by simp
  rw [e]
  generalize (2 : Nat) ^ n = m at *
  rw [IntKind.wrap_u64]
  omega

set_option maxRecDepth 100000 in
theorem with_any (g : Nat) (h : Int) (w : World) (hg : g < 128) (h0 : 0 ≤ h) (h1 : h ≤ 6) :
    Calls Tryd.prog 55 #[.int .u64 g, .int .i64 h] w fun e w' => e = .returned (.int .u64 ((g ||| 2 ^ h.toNat : Nat) : Int)) ∧ w = w' := by
  have hp := pow_small (show h.toNat ≤ 6 by omega)
  go_enter Tryd.func55, Tryd.ntmps55
  go_wp2
  go_ret
  refine ⟨?_, rfl⟩
  have e : bits BinOp.or IntKind.u64 (g : Int) (IntKind.u64.wrap ((2 : Int) ^ h.toNat)) = ((g ||| 2 ^ h.toNat : Nat) : Int) := by
    rw [u64wrap_pow (by omega), u64_or_nat _ _ (by omega) (by omega)]
  simp [e]

set_option maxRecDepth 100000 in
theorem within_any (x y : Nat) (w : World) (hx : x < 128) (hy : y < 128) :
    Calls Tryd.prog 155 #[.int .u64 x, .int .u64 y] w fun e w' => e = .returned (.bool (tell (x &&& y = x))) ∧ w = w' := by
  go_enter Tryd.func155, Tryd.ntmps155
  go_wp2
  go_ret
  refine ⟨ret_bool ?_, rfl⟩
  rw [u64_andNot_nat _ _ (by omega) (by omega)]
  exact (beq_tell _ 0).trans (tell_congr (part_iff x y hx hy))

/-- The number before place k: -1 before the first. -/
def lastTo (l : List Int) : Nat → Int
  | 0 => -1
  | k + 1 => nth l k

theorem lastTo_ge {n : Int} {l : List Int} {k : Nat} (h : ∀ j, j < k → GrpAt 0 (n - 1) l j) : -1 ≤ lastTo l k := by
  cases k with
  | zero => exact Int.le_refl _
  | succ k => have := (h k (by omega)).1; show -1 ≤ nth l k; omega
theorem grpAt_iff {n : Int} {l : List Int} {k : Nat} (h : ∀ j, j < k → GrpAt 0 (n - 1) l j) : GrpAt 0 (n - 1) l k ↔ lastTo l k < nth l k ∧ nth l k < n := by
  have h0 := lastTo_ge h
  cases k with
  | zero =>
    have e : lastTo l 0 = -1 := rfl
    rw [e] at *
    unfold GrpAt
    constructor
    · intro ⟨a, b, _⟩; omega
    · intro ⟨a, b⟩; exact ⟨by omega, by omega, fun h => absurd h (by omega)⟩
  | succ k =>
    have e : lastTo l (k + 1) = nth l k := rfl
    rw [e] at *
    unfold GrpAt
    constructor
    · intro ⟨a, b, c⟩; exact ⟨c (by omega), by omega⟩
    · intro ⟨a, b⟩; exact ⟨by have := (h k (by omega)).1; omega, by omega, fun _ => a⟩

/-- The bits of what is checked so far. -/
theorem bitsTo_lt' {n : Int} {l : List Int} (hn : n ≤ 7) : ∀ k, (∀ j, j < k → GrpAt 0 (n - 1) l j) → bitsTo l k < 128
  | 0, _ => by simp [bitsTo]
  | k + 1, h => by
    have h1 := bitsTo_lt' hn k (fun j hj => h j (by omega))
    obtain ⟨h2, h3, _⟩ := h k (by omega)
    exact Nat.or_lt_two_pow (n := 7) h1 (pow_small (by omega))

/-- What 'setOf' gives. -/
noncomputable def setVal (n : Int) (l : List Int) : Value := if tell (IsGrp n l) = true then .tuple #[.int .u64 ((bitsOf l : Nat) : Int), .bool true] else .tuple #[.int .u64 0, .bool false]

set_option maxRecDepth 100000 in
set_option maxHeartbeats 400000 in
theorem setOf_any (a : Option Addr) (zs : List Int) (c : Nat) (n : Int) (w : World) (h : Ints w a zs) (hn : n ≤ 7) (hl : zs.length ≤ 9223372036854775807) :
    Calls Tryd.prog 150 #[.int .i64 n, .slice a zs.length c] w fun e w' => e = .returned (setVal n zs) ∧ w = w' := by
  go_enter Tryd.func150, Tryd.ntmps150
  go_wp2_with fail
  go_loop [6, 7, 12] (fun g t i => ∃ k : Nat, k ≤ zs.length ∧ i = .int .i64 k ∧ g = .int .u64 ((bitsTo zs k : Nat) : Int) ∧ t = .int .i64 (lastTo zs k) ∧ ∀ j, j < k → GrpAt 0 (n - 1) zs j)
    (fun _ _ i => zs.length - (intOf i).toNat)
  case atStart => exact ⟨0, Nat.zero_le _, rfl, rfl, rfl, fun j hj => absurd hj (Nat.not_lt_zero _)⟩
  case round =>
    obtain ⟨k, hk, rfl, rfl, rfl, hall⟩ := hrel
    have HA := Lib.hid hall
    by_cases hlt : k < zs.length
    · rcases h with h | ⟨b, o, rfl, hc⟩
      · rw [h] at hlt; exact absurd hlt (Nat.not_lt_zero _)
      have hcell := hc k hlt
      have hi0 : (k : Int) < (zs.length : Int) := by omega
      have hl0 := lastTo_ge hall
      clear hc hall
      by_cases h1 : lastTo zs k < nth zs k
      · have t1 : decide (nth zs k ≤ lastTo zs k) = false := by simp; omega
        by_cases h2 : nth zs k < n
        · have t2 : decide (n ≤ nth zs k) = false := by simp; omega
          have HG := Lib.hid ((grpAt_iff HA.out).2 ⟨h1, h2⟩)
          go_wp2_with (go_at_call 55; refine (with_any (bitsTo zs k) (nth zs k) w (bitsTo_lt' hn k HA.out) (by omega) (by omega)).mono ?_; rintro e w' ⟨rfl, rfl⟩)
          go_round
          case rel => exact ⟨k + 1, by omega, by go_num, rfl, rfl, rises_step HA.out HG.out⟩
          case measure => simp [intOf]; omega
        · have t2 : decide (n ≤ nth zs k) = true := by simp; omega
          have hno : ¬ IsGrp n zs := fun hg => h2 ((grpAt_iff HA.out).1 (hg k hlt)).2
          have HN := Lib.hid hno
          clear hno
          go_wp2
          go_ret2
          exact ⟨by rw [setVal, tell_false HN.out]; rfl, rfl⟩
      · have t1 : decide (nth zs k ≤ lastTo zs k) = true := by simp; omega
        have hno : ¬ IsGrp n zs := fun hg => h1 ((grpAt_iff HA.out).1 (hg k hlt)).1
        have HN := Lib.hid hno
        clear hno
        go_wp2
        go_ret2
        exact ⟨by rw [setVal, tell_false HN.out]; rfl, rfl⟩
    · have hy : IsGrp n zs := fun j hj => hall j (by omega)
      have HY := Lib.hid hy
      have HE := Lib.hid (show k = zs.length by omega)
      clear hy hall
      go_wp2
      go_ret2
      exact ⟨by rw [setVal, tell_true HY.out, HE.out]; rfl, rfl⟩
end Go.Proofs.YtnebkhelobpkpaaDoor

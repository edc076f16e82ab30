/- Lists in order: cmp.Compare, slices.Compare, cmp.Or, compareRows of the program; l06Less, l06RowLess, l06Below of the model. -/
import Derived.Test.YtgndekojodpmkaaDoorTb
import Derived.Test.YtgndekojodpmkaaDoorPrm
namespace Go.Proofs.YtgndekojodpmkaaDoor
open Go.RowKit Go.Deep
set_option linter.unusedVariables false

/-- The lexicographic order: -1, 0, 1. -/
def lexCmp : List Int → List Int → Int
  | [], [] => 0
  | [], _ :: _ => -1
  | _ :: _, [] => 1
  | x :: xs, y :: ys => if x < y then -1 else if y < x then 1 else lexCmp xs ys

theorem drop_nth {l : List Int} {k : Nat} (h : k < l.length) : l.drop k = nth l k :: l.drop (k + 1) := by
  rw [nth_lt h]; exact List.drop_eq_getElem_cons h

theorem lexCmp_drop {a b : List Int} {k : Nat} (ha : k < a.length) (hb : k < b.length) :
    lexCmp (a.drop k) (b.drop k) = if nth a k < nth b k then -1 else if nth b k < nth a k then 1 else lexCmp (a.drop (k + 1)) (b.drop (k + 1)) := by
  rw [drop_nth ha, drop_nth hb]; rfl
theorem lexCmp_end {a b : List Int} {k : Nat} (ha : a.length ≤ k) (hb : b.length ≤ k) : lexCmp (a.drop k) (b.drop k) = 0 := by
  rw [List.drop_eq_nil_of_le ha, List.drop_eq_nil_of_le hb]; rfl
theorem lexCmp_left {a b : List Int} {k : Nat} (ha : a.length ≤ k) (hb : k < b.length) : lexCmp (a.drop k) (b.drop k) = -1 := by
  rw [List.drop_eq_nil_of_le ha, drop_nth hb]; rfl
theorem lexCmp_right {a b : List Int} {k : Nat} (ha : k < a.length) (hb : b.length ≤ k) : lexCmp (a.drop k) (b.drop k) = 1 := by
  rw [List.drop_eq_nil_of_le hb, drop_nth ha]; rfl

def Before (a b : List Int) : Prop := lexCmp a b < 0
set_option maxRecDepth 100000 in
theorem isNaN_any (x : Int) (w : World) : Calls Tryd.prog 121 #[.int .i64 x] w fun e w' => e = .returned (.bool false) ∧ w = w' := by
  go_enter Tryd.func121, Tryd.ntmps121
  go_wp2
  go_ret
  exact ⟨by simp, rfl⟩

def cmpI (x y : Int) : Int := if x < y then -1 else if y < x then 1 else 0
set_option maxRecDepth 100000 in
theorem cmpCompare_any (x y : Int) (w : World) : Calls Tryd.prog 106 #[.int .i64 x, .int .i64 y] w fun e w' => e = .returned (.int .i64 (cmpI x y)) ∧ w = w' := by
  by_cases h1 : x < y
  · go_enter Tryd.func106, Tryd.ntmps106
    go_wp2_with (go_at_call 121; refine (isNaN_any _ _).mono ?_; rintro e w' ⟨rfl, rfl⟩)
    go_ret
    exact ⟨ret_i64 (by simp [cmpI, h1]), rfl⟩
  · by_cases h2 : y < x
    · go_enter Tryd.func106, Tryd.ntmps106
      go_wp2_with (go_at_call 121; refine (isNaN_any _ _).mono ?_; rintro e w' ⟨rfl, rfl⟩)
      go_ret
      exact ⟨ret_i64 (by simp [cmpI, h1, h2]), rfl⟩
    · go_enter Tryd.func106, Tryd.ntmps106
      go_wp2_with (go_at_call 121; refine (isNaN_any _ _).mono ?_; rintro e w' ⟨rfl, rfl⟩)
      go_ret
      exact ⟨ret_i64 (by unfold cmpI; rw [if_neg (by omega), if_neg (by omega)]), rfl⟩

set_option maxRecDepth 100000 in
set_option maxHeartbeats 400000 in
theorem slicesCompare_any (a b : Option Addr) (xs ys : List Int) (ca cb : Nat) (w : World) (ha : Ints w a xs) (hb : Ints w b ys) (hlx : xs.length ≤ 9223372036854775807) (hly : ys.length ≤ 9223372036854775807) :
    Calls Tryd.prog 107 #[.slice a xs.length ca, .slice b ys.length cb] w fun e w' => e = .returned (.int .i64 (lexCmp xs ys)) ∧ w = w' := by
  go_enter Tryd.func107, Tryd.ntmps107
  go_wp2_with fail
  go_loop [11] (fun i => ∃ k : Nat, k ≤ xs.length ∧ k ≤ ys.length ∧ i = .int .i64 k ∧ lexCmp xs ys = lexCmp (xs.drop k) (ys.drop k))
    (fun i => xs.length - (intOf i).toNat)
  case atStart => exact ⟨0, Nat.zero_le _, Nat.zero_le _, rfl, rfl⟩
  case round =>
    obtain ⟨k, hkx, hky, rfl, hlex⟩ := hrel
    have HL := Lib.hid hlex
    clear hlex
    by_cases hltx : k < xs.length
    · rcases ha with h | ⟨b1, o1, rfl, hc1⟩
      · rw [h] at hltx; exact absurd hltx (Nat.not_lt_zero _)
      have g1 := hc1 k hltx
      have hix : (k : Int) < (xs.length : Int) := by omega
      by_cases hlty : k < ys.length
      · rcases hb with h | ⟨b2, o2, rfl, hc2⟩
        · rw [h] at hlty; exact absurd hlty (Nat.not_lt_zero _)
        have g2 := hc2 k hlty
        have hiy : (k : Int) < (ys.length : Int) := by omega
        have hst := Lib.hid (lexCmp_drop hltx hlty)
        clear hc1 hc2
        by_cases hne : nth xs k = nth ys k
        · have hcm := Lib.hid (show cmpI (nth xs k) (nth ys k) = 0 by simp [cmpI, hne])
          have HN := Lib.hid hne
          clear hne
          go_wp2_with fail
          refine (cmpCompare_any (nth xs k) (nth ys k) w).mono ?_
          rintro e w' ⟨rfl, rfl⟩
          rw [hcm.out]
          go_wp2
          go_round
          case rel => exact ⟨k + 1, by omega, by omega, by go_num, by rw [HL.out, hst.out, HN.out]; simp⟩
          case measure => simp [intOf]; omega
        · have hcm : lexCmp xs ys = cmpI (nth xs k) (nth ys k) := by
            rw [HL.out, hst.out]
            unfold cmpI
            by_cases h1 : nth xs k < nth ys k
            · rw [if_pos h1, if_pos h1]
            · rw [if_neg h1, if_neg h1, if_pos (by omega), if_pos (by omega)]
          have hnz : (cmpI (nth xs k) (nth ys k) != 0) = true := by
            unfold cmpI
            by_cases h1 : nth xs k < nth ys k
            · rw [if_pos h1]; rfl
            · rw [if_neg h1, if_pos (by omega)]; rfl
          have HCM := Lib.hid hcm
          clear hne hcm
          go_wp2_with fail
          refine (cmpCompare_any (nth xs k) (nth ys k) w).mono ?_
          rintro e w' ⟨rfl, rfl⟩
          go_wp2
          go_ret
          exact ⟨ret_i64 HCM.out.symm, rfl⟩
      · have hst := Lib.hid (lexCmp_right hltx (by omega : ys.length ≤ k))
        have t3 : (ys.length : Int) ≤ (k : Int) := by omega
        clear hc1
        go_wp2
        go_ret
        exact ⟨ret_i64 (by rw [HL.out, hst.out]), rfl⟩
    · by_cases hlty : xs.length < ys.length
      · have hst := Lib.hid (lexCmp_left (a := xs) (b := ys) (k := k) (by omega) (by omega))
        go_wp2
        go_ret
        exact ⟨ret_i64 (by rw [HL.out, hst.out]), rfl⟩
      · have hst := Lib.hid (lexCmp_end (a := xs) (b := ys) (k := k) (by omega) (by omega))
        go_wp2
        go_ret
        exact ⟨ret_i64 (by rw [HL.out, hst.out]), rfl⟩

set_option maxRecDepth 100000 in
set_option maxHeartbeats 400000 in
theorem l06Less_any (a b : Option Addr) (xs ys : List Int) (ca cb : Nat) (w : World) (ha : Ints w a xs) (hb : Ints w b ys) (hlx : xs.length ≤ 9223372036854775807) (hly : ys.length ≤ 9223372036854775807) :
    Calls Tryd.prog 102 #[.slice a xs.length ca, .slice b ys.length cb] w fun e w' => e = .returned (.bool (tell (Before xs ys))) ∧ Quiet w w' := by
  go_enter Tryd.func102, Tryd.ntmps102
  go_wp2
  go_loopw [5] (fun i wr => ∃ k : Nat, k ≤ xs.length ∧ k ≤ ys.length ∧ i = .int .i64 k ∧ Quiet w wr ∧ lexCmp xs ys = lexCmp (xs.drop k) (ys.drop k))
    (fun i _ => xs.length - (intOf i).toNat)
  case atStart => exact ⟨0, Nat.zero_le _, Nat.zero_le _, rfl, Quiet.refl _, rfl⟩
  case round =>
    obtain ⟨k, hkx, hky, rfl, hq, hlex⟩ := hrel
    have HQ := Lib.hid hq
    have HL := Lib.hid hlex
    have hax := ha.quiet hq
    have hbx := hb.quiet hq
    clear hlex hq
    by_cases hltx : k < xs.length
    · by_cases hlty : k < ys.length
      · rcases hax with h | ⟨b1, o1, rfl, hc1⟩
        · rw [h] at hltx; exact absurd hltx (Nat.not_lt_zero _)
        rcases hbx with h | ⟨b2, o2, rfl, hc2⟩
        · rw [h] at hlty; exact absurd hlty (Nat.not_lt_zero _)
        have g1 := hc1 k hltx
        have g2 := hc2 k hlty
        have hix : (k : Int) < (xs.length : Int) := by omega
        have hiy : (k : Int) < (ys.length : Int) := by omega
        have hst := Lib.hid (lexCmp_drop hltx hlty)
        clear hc1 hc2
        by_cases hne : nth xs k = nth ys k
        · have t1 : (nth xs k != nth ys k) = false := by simp [hne]
          have HN := Lib.hid hne
          clear hne
          go_wp2
          go_quiet (fail)
          go_wp2
          go_roundw
          case rel => exact ⟨k + 1, by omega, by omega, by go_num, HQ.out.trans ⟨_, rfl⟩, by rw [HL.out, hst.out, HN.out]; simp⟩
          case measure => simp [intOf]; omega
        · have t1 : (nth xs k != nth ys k) = true := by simp [hne]
          have HN := Lib.hid hne
          clear hne
          go_wp2
          go_quiet (fail)
          go_wp2
          go_quiet (fail)
          go_wp2
          go_ret
          refine ⟨ret_bool ?_, HQ.out.trans (Quiet.trans ⟨_, rfl⟩ ⟨_, rfl⟩)⟩
          have hne := HN.out
          rw [decide_tell]
          refine tell_congr ?_
          unfold Before
          rw [HL.out, hst.out]
          by_cases h1 : nth xs k < nth ys k
          · simp [h1]
          · rw [if_neg h1, if_pos (by omega)]; simp [h1]
      · have t2 : decide ((k : Int) < (ys.length : Int)) = false := by simp; omega
        have t3 : ys.length < xs.length := by omega
        have hst := Lib.hid (lexCmp_right hltx (by omega : ys.length ≤ k))
        go_wp2
        go_ret
        refine ⟨ret_bool ?_, HQ.out⟩
        rw [decide_tell]
        refine tell_congr ?_
        unfold Before
        rw [HL.out, hst.out]
        omega
    · go_wp2
      go_ret
      refine ⟨ret_bool ?_, HQ.out⟩
      rw [decide_tell]
      refine tell_congr ?_
      unfold Before
      rw [HL.out]
      by_cases hlty : k < ys.length
      · rw [lexCmp_left (by omega) hlty]; omega
      · rw [lexCmp_end (by omega) (by omega)]; omega

theorem lex_flip : ∀ a b : List Int, lexCmp b a = - lexCmp a b
  | [], [] => rfl
  | [], _ :: _ => rfl
  | _ :: _, [] => rfl
  | x :: xs, y :: ys => by
    simp only [lexCmp]
    by_cases h1 : x < y
    · simp [h1, show ¬ y < x by omega]
    · by_cases h2 : y < x
      · simp [h1, h2]
      · simp only [h1, h2, if_false]; exact lex_flip xs ys
theorem lex_zero : ∀ a b : List Int, lexCmp a b = 0 ↔ a = b
  | [], [] => by simp [lexCmp]
  | [], _ :: _ => by simp [lexCmp]
  | _ :: _, [] => by simp [lexCmp]
  | x :: xs, y :: ys => by
    simp only [lexCmp]
    by_cases h1 : x < y
    · rw [if_pos h1]; constructor
      · intro h; cases h
      · intro h; injection h with h _; omega
    · by_cases h2 : y < x
      · rw [if_neg h1, if_pos h2]; constructor
        · intro h; cases h
        · intro h; injection h with h _; omega
      · rw [if_neg h1, if_neg h2, lex_zero xs ys]
        constructor
        · intro h; rw [h, show x = y by omega]
        · intro h; injection h
theorem lex_range (a b : List Int) : lexCmp a b = -1 ∨ lexCmp a b = 0 ∨ lexCmp a b = 1 := by
  induction a generalizing b with
  | nil => cases b <;> simp [lexCmp]
  | cons x xs ih =>
    cases b with
    | nil => simp [lexCmp]
    | cons y ys =>
      simp only [lexCmp]
      by_cases h1 : x < y
      · simp [h1]
      · by_cases h2 : y < x
        · simp [h1, h2]
        · simp only [h1, h2, if_false]; exact ih ys
def cmpOr (p q : Int) : Int := if p = 0 then q else p
theorem lex_or (s t : Int) (xs ys : List Int) : cmpOr (cmpI s t) (lexCmp xs ys) = lexCmp (s :: xs) (t :: ys) := by
  unfold cmpOr cmpI
  simp only [lexCmp]
  by_cases h1 : s < t
  · rw [if_pos h1, if_neg (by decide), if_pos h1]
  · by_cases h2 : t < s
    · rw [if_neg h1, if_pos h2, if_neg (by decide), if_neg h1, if_pos h2]
    · rw [if_neg h1, if_neg h2, if_pos rfl, if_neg h1, if_neg h2]
set_option maxRecDepth 100000 in
theorem cmpOr_any (g : Nat) (p q : Int) (c : Nat) (w : World) (h0 : w.cell? ⟨g, 0, none⟩ = some (.int .i64 p)) (h1 : w.cell? ⟨g, 1, none⟩ = some (.int .i64 q)) :
    Calls Tryd.prog 105 #[.slice (some ⟨g, 0, none⟩) 2 c] w fun e w' => e = .returned (.int .i64 (cmpOr p q)) ∧ w = w' := by
  go_enter Tryd.func105, Tryd.ntmps105
  go_wp2_with fail
  go_loop [8] (fun i => i = .int .i64 0 ∨ (i = .int .i64 1 ∧ p = 0) ∨ (i = .int .i64 2 ∧ p = 0 ∧ q = 0))
    (fun i => 2 - (intOf i).toNat)
  case atStart => exact .inl rfl
  case round =>
    rcases hrel with rfl | ⟨rfl, hp⟩ | ⟨rfl, hp, hq⟩
    · by_cases hp : p = 0
      · have t1 : (p != 0) = false := by simp [hp]
        have HP := Lib.hid hp
        clear hp
        go_wp2
        go_round
        case rel => exact .inr (.inl ⟨by go_num, HP.out⟩)
        case measure => simp [intOf]
      · have t1 : (p != 0) = true := by simp [hp]
        have HP := Lib.hid hp
        clear hp
        go_wp2
        go_ret
        exact ⟨ret_i64 (by unfold cmpOr; rw [if_neg HP.out]), rfl⟩
    · have HP := Lib.hid hp
      clear hp
      by_cases hq : q = 0
      · have t1 : (q != 0) = false := by simp [hq]
        have HQ := Lib.hid hq
        clear hq
        go_wp2
        go_round
        case rel => exact .inr (.inr ⟨by go_num, HP.out, HQ.out⟩)
        case measure => simp [intOf]
      · have t1 : (q != 0) = true := by simp [hq]
        have HQ := Lib.hid hq
        clear hq
        go_wp2
        go_ret
        exact ⟨ret_i64 (by unfold cmpOr; rw [if_pos HP.out]), rfl⟩
    · have HP := Lib.hid hp
      have HQ := Lib.hid hq
      clear hp hq
      go_wp2
      go_ret
      exact ⟨ret_i64 (by unfold cmpOr; rw [if_pos HP.out, HQ.out]), rfl⟩
end Go.Proofs.YtgndekojodpmkaaDoor

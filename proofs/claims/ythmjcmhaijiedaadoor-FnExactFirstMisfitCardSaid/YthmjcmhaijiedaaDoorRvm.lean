/- Valid ranks: l07Meets, l07Ok, ValidRanks of the model. -/
import Derived.Test.YthmjcmhaijiedaaDoorRv0
import Derived.Deep.RegionWith
namespace Go.Proofs.YthmjcmhaijiedaaDoor
open Go.RowKit Go.Deep
set_option linter.unusedVariables false

set_option maxRecDepth 100000 in
set_option maxHeartbeats 2000000 in
theorem l07Meets_any (a : Option Addr) (z : List Int) (c m : Nat) (w : World) (hr : Ints w a z) (hm : m ≤ 5) (hn : z.length = 2 ^ m) (hs : SmallK z) :
    Calls Tryd.prog 108 #[.slice a z.length c] w fun e w' => e = .returned (.bool (tell (Meets z z.length))) ∧ Quiet w w' := by
  have hn32 : z.length ≤ 32 := by rw [hn]; exact pow5 hm
  have HN := Lib.hid hn
  have HS := Lib.hid hs
  clear hn hs
  go_enter Tryd.func108, Tryd.ntmps108
  go_wp2
  go_loopw [3, 4] (fun i _ wr => ∃ k : Nat, i = .int .i64 k ∧ k ≤ z.length ∧ Quiet w wr ∧ ∀ x, x < k → ∀ y, y < z.length → ¬ BadAt z x y)
    (fun i _ _ => z.length - (intOf i).toNat)
  case atStart => exact ⟨0, rfl, Nat.zero_le _, Quiet.refl _, fun x hx => absurd hx (Nat.not_lt_zero _)⟩
  case round =>
    obtain ⟨k, rfl, hk, hq, hno⟩ := hrel
    have HQ := Lib.hid hq
    have HA := Lib.hid hno
    clear hq hno
    by_cases hlt : k < z.length
    case neg =>
      have HX := Lib.hid (tell_true (p := Meets z z.length) (meets_iff.2 fun x hx y hy => HA.out x (by omega) y hy))
      have hi0 : ¬ (k : Int) < (z.length : Int) := by omega
      go_wp2_with fail
      go_ret
      exact ⟨ret_bool HX.out.symm, HQ.out⟩
    have hi0 : (k : Int) < (z.length : Int) := by omega
    go_wp2_with fail
    go_loopw [4] (fun i wr2 => ∃ j : Nat, i = .int .i64 j ∧ j ≤ z.length ∧ Quiet w wr2 ∧ ∀ y, y < j → ¬ BadAt z k y)
      (fun i _ => z.length - (intOf i).toNat)
    case atStart => exact ⟨0, rfl, Nat.zero_le _, HQ.out, fun y hy => absurd hy (Nat.not_lt_zero _)⟩
    case round =>
      obtain ⟨j, rfl, hj, hq2, hno2⟩ := hrel
      have HQ2 := Lib.hid hq2
      have HA2 := Lib.hid hno2
      clear hno2
      by_cases hltj : j < z.length
      case neg =>
        have hj0 : ¬ (j : Int) < (z.length : Int) := by omega
        clear hq2
        go_wp2_with fail
        go_roundw
        case rel => exact ⟨k + 1, by go_num, by omega, HQ2.out, fun x hx y hy => by
          by_cases e : x = k
          · subst e; exact HA2.out y (by omega)
          · exact HA.out x (by omega) y hy⟩
        case measure => simp [intOf]; omega
      have hj0 : (j : Int) < (z.length : Int) := by omega
      rcases hr.quiet hq2 with h | ⟨b, o, rfl, hc⟩
      · rw [h] at hlt; exact absurd hlt (Nat.not_lt_zero _)
      obtain ⟨p, hp⟩ : ∃ p, k ||| j = p := ⟨_, rfl⟩
      obtain ⟨q, hqq⟩ : ∃ q, k &&& j = q := ⟨_, rfl⟩
      have hp1 : p < z.length := by rw [← hp, HN.out]; exact Nat.or_lt_two_pow (by have := HN.out; omega) (by have := HN.out; omega)
      have hq1 : q < z.length := by rw [← hqq]; exact Nat.lt_of_le_of_lt Nat.and_le_left hlt
      have eo : bits BinOp.or IntKind.i64 (k : Int) (j : Int) = (p : Int) := by rw [← hp]; exact i64_or_nat _ _ (by omega) (by omega)
      have ea : bits BinOp.and IntKind.i64 (k : Int) (j : Int) = (q : Int) := by rw [← hqq]; exact i64_and_nat _ _ (by omega) (by omega)
      have hp0 : (p : Int) < (z.length : Int) := by omega
      have hq0 : (q : Int) < (z.length : Int) := by omega
      have g1 := hc k hlt
      have g2 := hc j hltj
      have g3 := hc p hp1
      have g4 := hc q hq1
      have HE := Lib.hid (And.intro hp hqq)
      have b1 := HS.out k hlt
      have b2 := HS.out j hltj
      have b3 := HS.out p hp1
      have b4 := HS.out q hq1
      have HB := Lib.hid (show BadAt z k j ↔ (q = k ∧ nth z j < nth z k) ∨ nth z k + nth z j < nth z p + nth z q by unfold BadAt; rw [HE.out.1, HE.out.2])
      clear hc hp hqq hq2 HS
      generalize nth z k = x1 at *
      generalize nth z j = x2 at *
      generalize nth z p = x3 at *
      generalize nth z q = x4 at *
      have s1 : IntKind.i64.wrap (x1 + x2) = x1 + x2 := IntWalk.i64_in _ (by omega)
      have s2 : IntKind.i64.wrap (x3 + x4) = x3 + x4 := IntWalk.i64_in _ (by omega)
      clear b1 b2 b3 b4
      by_cases h2 : x1 + x2 < x3 + x4
      · have HX := Lib.hid (tell_false (p := Meets z z.length) (fun f => (meets_iff.1 f) k hlt j hltj (HB.out.2 (.inr h2))))
        have d2 : decide (x1 + x2 < x3 + x4) = true := by simp [h2]
        by_cases h1 : q = k
        · have d1 : ((q : Int) == (k : Int)) = true := by simp [h1]
          have d1n : (q == k) = true := by simp [h1]
          by_cases h3 : x2 < x1
          · have d3 : decide (x2 < x1) = true := by simp [h3]
            clear h1 h2 h3
            go_wp2
            go_big_quiet (fail)
            go_wp2
            go_ret
            exact ⟨ret_bool HX.out.symm, HQ2.out.trans ⟨_, rfl⟩⟩
          · have d3 : decide (x2 < x1) = false := by simp [h3]
            clear h1 h2 h3
            go_wp2
            go_big_quiet (fail)
            go_wp2
            go_ret
            exact ⟨ret_bool HX.out.symm, HQ2.out.trans ⟨_, rfl⟩⟩
        · have d1 : ((q : Int) == (k : Int)) = false := by simp; omega
          have d1n : (q == k) = false := by simp [h1]
          clear h1 h2
          go_wp2
          go_big_quiet (fail)
          go_wp2
          go_ret
          exact ⟨ret_bool HX.out.symm, HQ2.out.trans ⟨_, rfl⟩⟩
      · have d2 : decide (x1 + x2 < x3 + x4) = false := by simp [h2]
        have H2 := Lib.hid h2
        by_cases h1 : q = k
        · have d1 : ((q : Int) == (k : Int)) = true := by simp [h1]
          have d1n : (q == k) = true := by simp [h1]
          by_cases h3 : x2 < x1
          · have d3 : decide (x2 < x1) = true := by simp [h3]
            have HX := Lib.hid (tell_false (p := Meets z z.length) (fun f => (meets_iff.1 f) k hlt j hltj (HB.out.2 (.inl ⟨h1, h3⟩))))
            clear h1 h2 h3
            go_wp2
            go_big_quiet (fail)
            go_wp2
            go_ret
            exact ⟨ret_bool HX.out.symm, HQ2.out.trans ⟨_, rfl⟩⟩
          · have d3 : decide (x2 < x1) = false := by simp [h3]
            have HY := Lib.hid (show ¬ BadAt z k j from fun f => by rcases HB.out.1 f with f | f; exact h3 f.2; exact H2.out f)
            clear h1 h2 h3
            go_wp2
            go_big_quiet (fail)
            go_wp2
            go_roundw
            case rel => exact ⟨j + 1, by go_num, by omega, HQ2.out.trans ⟨_, rfl⟩, fun y hy => by
              by_cases e : y = j
              · subst e; exact HY.out
              · exact HA2.out y (by omega)⟩
            case measure => simp [intOf]; omega
        · have d1 : ((q : Int) == (k : Int)) = false := by simp; omega
          have d1n : (q == k) = false := by simp [h1]
          have HY := Lib.hid (show ¬ BadAt z k j from fun f => by rcases HB.out.1 f with f | f; exact h1 f.1; exact H2.out f)
          clear h1 h2
          go_wp2
          go_big_quiet (fail)
          go_wp2
          go_roundw
          case rel => exact ⟨j + 1, by go_num, by omega, HQ2.out.trans ⟨_, rfl⟩, fun y hy => by
            by_cases e : y = j
            · subst e; exact HY.out
            · exact HA2.out y (by omega)⟩
          case measure => simp [intOf]; omega
theorem in_bool {n lo hi : Int} : (decide (lo ≤ n) && decide (n ≤ hi)) = tell (lo ≤ n ∧ n ≤ hi) := by
  rw [← decide_tell]
  by_cases h1 : lo ≤ n <;> by_cases h2 : n ≤ hi <;> simp [h1, h2]
theorem l00In_tell (n lo hi : Int) (w : World) : Calls Tryd.prog 107 #[.int .i64 n, .int .i64 lo, .int .i64 hi] w fun e w' => e = .returned (.bool (tell (lo ≤ n ∧ n ≤ hi))) ∧ w = w' := l00In_val n lo hi _ w in_bool
theorem l00In_q (b : Bool) (n lo hi : Int) (w : World) (hb : tell (lo ≤ n ∧ n ≤ hi) = b) : Calls Tryd.prog 107 #[.int .i64 n, .int .i64 lo, .int .i64 hi] w fun e w' => e = .returned (.bool b) ∧ Quiet w w' := by
  subst hb
  refine (l00In_tell n lo hi w).mono ?_
  rintro e w' ⟨rfl, rfl⟩
  exact ⟨rfl, Quiet.refl _⟩

set_option maxRecDepth 100000 in
set_option maxHeartbeats 2000000 in
theorem l07Ok_any (q0 : Nat) (h l : Int) (a : Option Addr) (z : List Int) (c : Nat) (w : World) (hx : Boxes w q0 32 #[.int .i64 h, .int .i64 l, .slice a z.length c]) (hr : Ints w a z) (hl : LenI z) :
    Calls Tryd.prog 60 #[.pointer (some ⟨q0, 0, none⟩)] w fun e w' => e = .returned (.bool (tell (RkOk h l z))) ∧ Quiet w w' := by
  have hln := hl.n
  have c0 := hx.m0
  have c1 := hx.m1
  have c2 := hx.m2
  have HX := Lib.hid hx
  have HR := Lib.hid hr
  clear hl hx hr
  by_cases h1 : 1 ≤ h ∧ h ≤ 5
  case neg =>
    have T1 := Lib.hid (tell_false h1)
    have HN := Lib.hid (tell_false (p := RkOk h l z) (fun f => h1 f.1.1))
    clear h1
    go_enter Tryd.func60, Tryd.ntmps60
    go_wp2
    go_big_quiet ((go_at_call 107; exact Calls.quiet_of (l00In_q false _ _ _ _ T1.out)))
    go_wp2
    go_ret
    exact ⟨ret_bool HN.out.symm, ⟨_, rfl⟩⟩
  have T1 := Lib.hid (tell_true h1)
  obtain ⟨m, rfl⟩ : ∃ m : Nat, h = (m : Int) := ⟨h.toNat, by omega⟩
  have m1 : 1 ≤ m := by omega
  have m5 : m ≤ 5 := by omega
  clear h1
  by_cases h2 : 1 ≤ l ∧ l ≤ 100000
  case neg =>
    have T2 := Lib.hid (tell_false h2)
    have HN := Lib.hid (tell_false (p := RkOk m l z) (fun f => h2 f.1.2.1))
    clear h2
    go_enter Tryd.func60, Tryd.ntmps60
    go_wp2
    go_big_quiet ((first | (go_at_call_of 107 (Value.int .i64 (m : Int)); exact Calls.quiet_of (l00In_q true _ _ _ _ T1.out)) | (go_at_call_of 107 (Value.int .i64 l); exact Calls.quiet_of (l00In_q false _ _ _ _ T2.out))))
    go_wp2
    go_ret
    exact ⟨ret_bool HN.out.symm, ⟨_, rfl⟩⟩
  have T2 := Lib.hid (tell_true h2)
  have H2 := Lib.hid h2
  clear h2
  have wp := wrap64_pow5 m m5
  obtain ⟨n, hn⟩ : ∃ n : Nat, n = 2 ^ m := ⟨_, rfl⟩
  have hn32 : n ≤ 32 := by rw [hn]; exact pow5 m5
  have hn1 : 1 ≤ n := by rw [hn]; exact Nat.one_le_two_pow
  have HNN := Lib.hid hn
  rw [← hn] at wp
  clear hn
  by_cases h3 : z.length = n
  case neg =>
    have t3 : ((z.length : Int) != (n : Int)) = true := by simp; omega
    have t3n : (z.length != n) = true := by simp; omega
    have HN := Lib.hid (tell_false (p := RkOk m l z) (fun f => h3 (by rw [f.1.2.2, HNN.out]; simp)))
    clear h3
    go_enter Tryd.func60, Tryd.ntmps60
    go_wp2
    go_big_quiet ((first | (go_at_call_of 107 (Value.int .i64 (m : Int)); exact Calls.quiet_of (l00In_q true _ _ _ _ T1.out)) | (go_at_call_of 107 (Value.int .i64 l); exact Calls.quiet_of (l00In_q true _ _ _ _ T2.out))))
    go_wp2
    go_ret
    exact ⟨ret_bool HN.out.symm, ⟨_, rfl⟩⟩
  have t3 : ((z.length : Int) != (n : Int)) = false := by simp; omega
  have t3n : (z.length != n) = false := by simp; omega
  have H3 := Lib.hid h3
  have hzl : z.length ≤ 32 := by omega
  have hz1 : 0 < z.length := by omega
  have hzi : (0 : Int) < (z.length : Int) := by omega
  clear h3
  rcases HR.out with hh | ⟨b, o, rfl, hc⟩
  · rw [hh] at hz1; exact absurd hz1 (by decide)
  have g0 : w.cell? ⟨b, o, none⟩ = some (.int .i64 (nth z 0)) := hc 0 hz1
  have HC := Lib.hid hc
  clear hc
  by_cases h4 : nth z 0 = 0
  case neg =>
    have t4 : (nth z 0 != 0) = true := by simp [h4]
    have HN := Lib.hid (tell_false (p := RkOk m l z) (fun f => h4 f.2.1))
    clear h4
    generalize nth z 0 = x0 at *
    go_enter Tryd.func60, Tryd.ntmps60
    go_wp2
    go_big_quiet ((first | (go_at_call_of 107 (Value.int .i64 (m : Int)); exact Calls.quiet_of (l00In_q true _ _ _ _ T1.out)) | (go_at_call_of 107 (Value.int .i64 l); exact Calls.quiet_of (l00In_q true _ _ _ _ T2.out))))
    go_wp2
    go_ret
    exact ⟨ret_bool HN.out.symm, ⟨_, rfl⟩⟩
  have t4 : (nth z 0 != 0) = false := by simp [h4]
  have H4 := Lib.hid h4
  clear h4
  generalize hx0 : nth z 0 = x0 at g0 t4
  have HX0 := Lib.hid hx0
  clear hx0
  go_enter Tryd.func60, Tryd.ntmps60
  go_wp2
  go_big_quiet ((first | (go_at_call_of 107 (Value.int .i64 (m : Int)); exact Calls.quiet_of (l00In_q true _ _ _ _ T1.out)) | (go_at_call_of 107 (Value.int .i64 l); exact Calls.quiet_of (l00In_q true _ _ _ _ T2.out))))
  go_wp2
  go_loopw [3] (fun i wr => ∃ k : Nat, i = .int .i64 k ∧ k ≤ z.length ∧ Quiet w wr ∧ ∀ j, j < k → 0 ≤ nth z j ∧ nth z j ≤ 100000)
    (fun i _ => z.length - (intOf i).toNat)
  case atStart => exact ⟨0, rfl, Nat.zero_le _, ⟨_, rfl⟩, fun j hj => absurd hj (Nat.not_lt_zero _)⟩
  case round =>
    obtain ⟨k, rfl, hk, hq, hno⟩ := hrel
    have HQ := Lib.hid hq
    have HA := Lib.hid hno
    have d2 := (hq.cell _).trans c2
    clear hno c0 c1 c2 g0 wp
    by_cases hlt : k < z.length
    · have hi0 : (k : Int) < (z.length : Int) := by omega
      have g1 := (hq.cell _).trans (HC.out k hlt)
      clear hq
      by_cases h5 : 0 ≤ nth z k ∧ nth z k ≤ 100000
      · have T5 := Lib.hid (tell_true h5)
        have H5 := Lib.hid h5
        clear h5
        go_wp2_with fail
        refine (l00In_tell _ 0 _ _).mono ?_
        rintro e w' ⟨rfl, rfl⟩
        rw [T5.out]
        go_wp2_with fail
        go_roundw
        case rel => exact ⟨k + 1, by go_num, by omega, HQ.out, fun j hj => by
          by_cases e : j = k
          · subst e; exact H5.out
          · exact HA.out j (by omega)⟩
        case measure => simp [intOf]; omega
      · have T5 := Lib.hid (tell_false h5)
        have HXX := Lib.hid (tell_false (p := RkOk m l z) (fun f => h5 (f.2.2.1 k hlt)))
        clear h5
        go_wp2_with fail
        refine (l00In_tell _ 0 _ _).mono ?_
        rintro e w' ⟨rfl, rfl⟩
        rw [T5.out]
        go_wp2_with fail
        go_ret
        exact ⟨ret_bool HXX.out.symm, HQ.out⟩
    · have HSM := Lib.hid (show SmallK z from fun j hj => HA.out j (by omega))
      have hi0 : ¬ (k : Int) < (z.length : Int) := by omega
      have HRW := Lib.hid (HR.out.quiet hq)
      have HRES := Lib.hid (show tell (RkOk m l z) = tell (Meets z z.length) from tell_congr ⟨fun f => f.2.2.2, fun f => ⟨⟨⟨by omega, by omega⟩, H2.out, by rw [H3.out, HNN.out]; simp⟩, H4.out, HSM.out, f⟩⟩)
      clear hq
      go_wp2_with fail
      refine (l07Meets_any _ z c m _ HRW.out m5 (by rw [H3.out, HNN.out]) HSM.out).mono ?_
      rintro e w' ⟨rfl, hq⟩
      have HQF := Lib.hid (HQ.out.trans hq)
      clear hq
      go_wp2_with fail
      go_ret
      exact ⟨ret_bool HRES.out.symm, HQF.out⟩
end Go.Proofs.YthmjcmhaijiedaaDoor

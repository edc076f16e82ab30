/- The contracts of SameMatrix, the model's and the program's. -/
import Derived.Test.YtcebphepfkpklaaSm3
import Derived.Test.YtcebphepfkpklaaMat
namespace Go.Proofs.Ytcebphepfkpklaa
open Go.RowKit Go.Deep
set_option linter.unusedVariables false

set_option maxRecDepth 100000 in
set_option maxHeartbeats 800000 in
theorem specSmm_any (hf kf hg kg : Int) (a b : Option Addr) (xs ys : List (List Int)) (ca cb : Nat) (w : World) (ha : Rows2 w a xs) (hb : Rows2 w b ys) (hlx : Lens xs) (hly : Lens ys) :
    Calls Try.prog 83 #[.agg #[.int .i64 hf, .int .i64 kf, .slice a xs.length ca], .agg #[.int .i64 hg, .int .i64 kg, .slice b ys.length cb]] w fun e w' => e = .returned (.bool (tell ((hf = hg ∧ kf = kg) ∧ xs = ys))) ∧ Below w.heap.size w w' := by
  have hl1 : xs.length ≤ 9223372036854775807 := hlx.1
  have HLX := Lib.hid hlx
  have HLY := Lib.hid hly
  have hb1 := ((Below.refl w.heap.size w).alloc (Nat.le_refl _) (.cells #[.int .i64 hf, .int .i64 kf, .slice a xs.length ca] 27)).alloc (by simp) (.cells #[.int .i64 hg, .int .i64 kg, .slice b ys.length cb] 27)
  have HB1 := Lib.hid hb1
  have HA := Lib.hid (ha.below hb1 (Nat.le_refl _))
  have HB := Lib.hid (hb.below hb1 (Nat.le_refl _))
  clear hlx hly hb1 ha hb
  by_cases hh : hf = hg
  · have s0 : (hf != hg) = false := by simp [hh]
    by_cases hk : kf = kg
    case neg =>
      have s1 : (kf != kg) = true := by simp [hk]
      have HN := Lib.hid (show ¬ ((hf = hg ∧ kf = kg) ∧ xs = ys) from fun e => hk e.1.2)
      clear hh hk
      go_enter Try.func83, Try.ntmps83
      go_wp2_with fail
      go_ret
      exact ⟨ret_bool (tell_false HN.out).symm, HB1.out⟩
    have s1 : (kf != kg) = false := by simp [hk]
    have HH := Lib.hid (And.intro hh hk)
    clear hh hk
    by_cases hlen : xs.length = ys.length
    · have t0 : ((xs.length : Int) != (ys.length : Int)) = false := by simp [hlen]
      have t00 : (xs.length != ys.length) = false := by simp [hlen]
      have HLN := Lib.hid hlen
      clear hlen
      go_enter Try.func83, Try.ntmps83
      go_wp2_with fail
      obtain ⟨W0, hW0⟩ : ∃ W0, (w.alloc (.cells #[.int .i64 hf, .int .i64 kf, .slice a xs.length ca] 27)).alloc (.cells #[.int .i64 hg, .int .i64 kg, .slice b ys.length cb] 27) = W0 := ⟨_, rfl⟩
      have c0 : W0.cell? ⟨w.heap.size, 2, none⟩ = some (.slice a xs.length ca) := by rw [← hW0]; simp
      have c1 : W0.cell? ⟨w.heap.size + 1, 2, none⟩ = some (.slice b ys.length cb) := by rw [← hW0]; simp
      rw [hW0] at HA HB HB1
      simp only [hW0]
      clear hW0
      go_loopw [5] (fun i wr => ∃ k : Nat, k ≤ xs.length ∧ i = .int .i64 k ∧ Quiet W0 wr ∧ ∀ j, j < k → nthL xs j = nthL ys j)
        (fun i _ => xs.length - (intOf i).toNat)
      case atStart => exact ⟨0, Nat.zero_le _, rfl, Quiet.refl _, fun j hj => absurd hj (Nat.not_lt_zero _)⟩
      case round =>
        obtain ⟨k, hk, rfl, hq, hall⟩ := hrel
        have HQ := Lib.hid hq
        have HAL := Lib.hid hall
        have d0 := (hq.cell _).trans c0
        have d1 := (hq.cell _).trans c1
        have HBQ := Lib.hid (HB1.out.trans ((quiet_below hq).mono (by have := HB1.out.size; omega)))
        by_cases hlt : k < xs.length
        · have hlty : k < ys.length := by have := HLN.out; omega
          rcases HA.out.quiet hq with h | ⟨b1, o1, rfl, hc1⟩
          · rw [h] at hlt; exact absurd hlt (Nat.not_lt_zero _)
          rcases HB.out.quiet hq with h | ⟨b2, o2, rfl, hc2⟩
          · rw [h] at hlty; exact absurd hlty (Nat.not_lt_zero _)
          obtain ⟨ai, ci, g1, i1⟩ := hc1 k hlt
          obtain ⟨aj, cj, g2, i2⟩ := hc2 k hlty
          have hix : (k : Int) < (xs.length : Int) := by omega
          have hiy : (k : Int) < (ys.length : Int) := by omega
          have I1 := Lib.hid i1
          have I2 := Lib.hid i2
          clear hc1 hc2 hall hq c0 c1 i1 i2
          by_cases hne : nthL xs k = nthL ys k
          · have HT := Lib.hid (tell_true hne)
            have HN := Lib.hid hne
            clear hne
            go_wp2
            go_quiet ((go_at_call 82; refine Calls.quiet_of (v := .bool true) ?_; rw [← HT.out]; exact l00Same_any _ _ (nthL xs k) (nthL ys k) _ _ _ (I1.out.quiet ⟨_, rfl⟩) (I2.out.quiet ⟨_, rfl⟩) (HLX.out.2 k hlt) (HLY.out.2 k hlty)))
            go_wp2
            go_roundw
            case rel =>
              refine ⟨k + 1, by omega, by go_num, HQ.out.trans ⟨_, rfl⟩, fun j hj => ?_⟩
              by_cases e : j = k
              · subst e; exact HN.out
              · exact HAL.out j (by omega)
            case measure => simp [intOf]; omega
          · have HT := Lib.hid (tell_false hne)
            have HN := Lib.hid (show ¬ ((hf = hg ∧ kf = kg) ∧ xs = ys) from fun e => hne (by rw [e.2]))
            clear hne
            go_wp2
            go_quiet ((go_at_call 82; refine Calls.quiet_of (v := .bool false) ?_; rw [← HT.out]; exact l00Same_any _ _ (nthL xs k) (nthL ys k) _ _ _ (I1.out.quiet ⟨_, rfl⟩) (I2.out.quiet ⟨_, rfl⟩) (HLX.out.2 k hlt) (HLY.out.2 k hlty)))
            go_wp2
            go_ret
            exact ⟨ret_bool (tell_false HN.out).symm, below_drewN HBQ.out _⟩
        · have HY := Lib.hid (show (hf = hg ∧ kf = kg) ∧ xs = ys from ⟨HH.out, ext_nthL HLN.out (fun i hi => hall i (by omega))⟩)
          clear hall hq c0 c1
          go_wp2
          go_ret
          exact ⟨ret_bool (tell_true HY.out).symm, HBQ.out⟩
    · have t0 : ((xs.length : Int) != (ys.length : Int)) = true := by simp; omega
      have t00 : (xs.length != ys.length) = true := by simp [hlen]
      have HN := Lib.hid (show ¬ ((hf = hg ∧ kf = kg) ∧ xs = ys) from fun e => hlen (by rw [e.2]))
      clear hlen
      go_enter Try.func83, Try.ntmps83
      go_wp2_with fail
      go_ret
      exact ⟨ret_bool (tell_false HN.out).symm, HB1.out⟩
  · have s0 : (hf != hg) = true := by simp [hh]
    have HN := Lib.hid (show ¬ ((hf = hg ∧ kf = kg) ∧ xs = ys) from fun e => hh e.1.1)
    clear hh
    go_enter Try.func83, Try.ntmps83
    go_wp2_with fail
    go_ret
    exact ⟨ret_bool (tell_false HN.out).symm, HB1.out⟩

set_option maxRecDepth 100000 in
set_option maxHeartbeats 800000 in
theorem implSmm_any (hf kf hg kg : Int) (a b : Option Addr) (xs ys : List (List Int)) (ca cb : Nat) (w : World) (ha : Rows2 w a xs) (hb : Rows2 w b ys) (hlx : Lens xs) (hly : Lens ys) :
    Calls Try.prog 85 #[.agg #[.int .i64 hf, .int .i64 kf, .slice a xs.length ca], .agg #[.int .i64 hg, .int .i64 kg, .slice b ys.length cb]] w fun e w' => e = .returned (.bool (tell ((hf = hg ∧ kf = kg) ∧ xs = ys))) ∧ Below w.heap.size w w' := by
  have HLX := Lib.hid hlx
  have HLY := Lib.hid hly
  have hb1 := ((Below.refl w.heap.size w).alloc (Nat.le_refl _) (.cells #[.int .i64 hf, .int .i64 kf, .slice a xs.length ca] 27)).alloc (by simp) (.cells #[.int .i64 hg, .int .i64 kg, .slice b ys.length cb] 27)
  have HB1 := Lib.hid hb1
  have HA := Lib.hid (ha.below hb1 (Nat.le_refl _))
  have HB := Lib.hid (hb.below hb1 (Nat.le_refl _))
  clear hlx hly hb1 ha hb
  by_cases hh : hf = hg
  · have s0 : (hf == hg) = true := by simp [hh]
    by_cases hk : kf = kg
    case neg =>
      have s1 : (kf == kg) = false := by simp [hk]
      have HN := Lib.hid (show ¬ ((hf = hg ∧ kf = kg) ∧ xs = ys) from fun e => hk e.1.2)
      clear hh hk
      go_enter Try.func85, Try.ntmps85
      go_wp2_with fail
      go_ret
      exact ⟨ret_bool (tell_false HN.out).symm, HB1.out⟩
    have s1 : (kf == kg) = true := by simp [hk]
    have HH := Lib.hid (And.intro hh hk)
    clear hh hk
    go_enter Try.func85, Try.ntmps85
    go_wp2_with fail
    refine (slicesEqualFunc_any a b xs ys ca cb _ HA.out HB.out HLX.out HLY.out).mono ?_
    rintro e w1 ⟨rfl, hq⟩
    have HB2 := Lib.hid (HB1.out.trans ((quiet_below hq).mono (by simp; omega)))
    clear hq
    go_wp2_with fail
    go_ret
    exact ⟨ret_bool (tell_congr ⟨fun h => ⟨HH.out, h⟩, fun h => h.2⟩), HB2.out⟩
  · have s0 : (hf == hg) = false := by simp [hh]
    have HN := Lib.hid (show ¬ ((hf = hg ∧ kf = kg) ∧ xs = ys) from fun e => hh e.1.1)
    clear hh
    go_enter Try.func85, Try.ntmps85
    go_wp2_with fail
    go_ret
    exact ⟨ret_bool (tell_false HN.out).symm, HB1.out⟩
end Go.Proofs.Ytcebphepfkpklaa

/- The contracts of the comparisons: l00Same, SameFamily; slices.Equal, slices.EqualFunc, the program's SameFamily. -/
import Derived.Test.YtdfggbojccfblaaOk
namespace Go.Proofs.Ytdfggbojccfblaa
open Go.RowKit Go.Deep
set_option linter.unusedVariables false

theorem eq_iff_nth {xs ys : List Int} : xs = ys ↔ xs.length = ys.length ∧ ∀ i, i < xs.length → nth xs i = nth ys i :=
  ⟨fun h => by subst h; exact ⟨rfl, fun _ _ => rfl⟩, fun ⟨h1, h2⟩ => ext_nth h1 h2⟩
theorem eq_iff_nthL {xs ys : List (List Int)} : xs = ys ↔ xs.length = ys.length ∧ ∀ i, i < xs.length → nthL xs i = nthL ys i :=
  ⟨fun h => by subst h; exact ⟨rfl, fun _ _ => rfl⟩, fun ⟨h1, h2⟩ => ext_nthL h1 h2⟩

set_option maxRecDepth 100000 in
set_option maxHeartbeats 400000 in
theorem l00Same_any (a b : Option Addr) (xs ys : List Int) (ca cb : Nat) (w : World) (ha : Ints w a xs) (hb : Ints w b ys) (hlx : xs.length ≤ 9223372036854775807) (hly : ys.length ≤ 9223372036854775807) :
    Calls Try.prog 41 #[.slice a xs.length ca, .slice b ys.length cb] w fun e w' => e = .returned (.bool (tell (xs = ys))) ∧ Quiet w w' := by
  by_cases hlen : xs.length = ys.length
  · have t0 : ((xs.length : Int) != (ys.length : Int)) = false := by simp [hlen]
    have t00 : (xs.length != ys.length) = false := by simp [hlen]
    have HLN := Lib.hid hlen
    clear hlen
    go_enter Try.func41, Try.ntmps41
    go_wp2
    go_loopw [5] (fun i wr => ∃ k : Nat, k ≤ xs.length ∧ i = .int .i64 k ∧ Quiet w wr ∧ ∀ j, j < k → nth xs j = nth ys j)
      (fun i _ => xs.length - (intOf i).toNat)
    case atStart => exact ⟨0, Nat.zero_le _, rfl, Quiet.refl _, fun j hj => absurd hj (Nat.not_lt_zero _)⟩
    case round =>
      obtain ⟨k, hk, rfl, hq, hall⟩ := hrel
      have HQ := Lib.hid hq
      have HA := Lib.hid hall
      have hax := ha.quiet hq
      have hbx := hb.quiet hq
      clear hall hq
      by_cases hlt : k < xs.length
      · have hlty : k < ys.length := by have := HLN.out; omega
        rcases hax with h | ⟨b1, o1, rfl, hc1⟩
        · rw [h] at hlt; exact absurd hlt (Nat.not_lt_zero _)
        rcases hbx with h | ⟨b2, o2, rfl, hc2⟩
        · rw [h] at hlty; exact absurd hlty (Nat.not_lt_zero _)
        have g1 := hc1 k hlt
        have g2 := hc2 k hlty
        have hix : (k : Int) < (xs.length : Int) := by omega
        have hiy : (k : Int) < (ys.length : Int) := by omega
        clear hc1 hc2
        by_cases hne : nth xs k = nth ys k
        · have t1 : (nth xs k != nth ys k) = false := by simp [hne]
          have HN := Lib.hid hne
          clear hne
          go_wp2
          go_quiet (fail)
          go_wp2
          go_roundw
          case rel =>
            refine ⟨k + 1, by omega, by go_num, HQ.out.trans ⟨_, rfl⟩, fun j hj => ?_⟩
            by_cases e : j = k
            · subst e; exact HN.out
            · exact HA.out j (by omega)
          case measure => simp [intOf]; omega
        · have t1 : (nth xs k != nth ys k) = true := by simp [hne]
          have HN := Lib.hid (show ¬ xs = ys from fun e => hne (by rw [e]))
          clear hne
          go_wp2
          go_quiet (fail)
          go_wp2
          go_ret
          exact ⟨ret_bool (tell_false HN.out).symm, HQ.out.trans ⟨_, rfl⟩⟩
      · have HY := Lib.hid (show xs = ys from ext_nth HLN.out (fun i hi => HA.out i (by omega)))
        go_wp2
        go_ret
        exact ⟨ret_bool (tell_true HY.out).symm, HQ.out⟩
  · have t0 : ((xs.length : Int) != (ys.length : Int)) = true := by simp; omega
    have t00 : (xs.length != ys.length) = true := by simp [hlen]
    have HN := Lib.hid (show ¬ xs = ys from fun e => hlen (by rw [e]))
    clear hlen
    go_enter Try.func41, Try.ntmps41
    go_wp2
    go_ret
    exact ⟨ret_bool (tell_false HN.out).symm, Quiet.refl _⟩

set_option maxRecDepth 100000 in
set_option maxHeartbeats 400000 in
theorem slicesEqual_any (a b : Option Addr) (xs ys : List Int) (ca cb : Nat) (w : World) (ha : Ints w a xs) (hb : Ints w b ys) (hlx : xs.length ≤ 9223372036854775807) (hly : ys.length ≤ 9223372036854775807) :
    Calls Try.prog 42 #[.slice a xs.length ca, .slice b ys.length cb] w fun e w' => e = .returned (.bool (tell (xs = ys))) ∧ Quiet w w' := by
  by_cases hlen : xs.length = ys.length
  · have t0 : ((xs.length : Int) != (ys.length : Int)) = false := by simp [hlen]
    have t00 : (xs.length != ys.length) = false := by simp [hlen]
    have HLN := Lib.hid hlen
    clear hlen
    go_enter Try.func42, Try.ntmps42
    go_wp2
    go_loopw [13] (fun i wr => ∃ k : Nat, k ≤ xs.length ∧ i = .int .i64 k ∧ Quiet w wr ∧ ∀ j, j < k → nth xs j = nth ys j)
      (fun i _ => xs.length - (intOf i).toNat)
    case atStart => exact ⟨0, Nat.zero_le _, rfl, Quiet.refl _, fun j hj => absurd hj (Nat.not_lt_zero _)⟩
    case round =>
      obtain ⟨k, hk, rfl, hq, hall⟩ := hrel
      have HQ := Lib.hid hq
      have HA := Lib.hid hall
      have hax := ha.quiet hq
      have hbx := hb.quiet hq
      clear hall hq
      by_cases hlt : k < xs.length
      · have hlty : k < ys.length := by have := HLN.out; omega
        rcases hax with h | ⟨b1, o1, rfl, hc1⟩
        · rw [h] at hlt; exact absurd hlt (Nat.not_lt_zero _)
        rcases hbx with h | ⟨b2, o2, rfl, hc2⟩
        · rw [h] at hlty; exact absurd hlty (Nat.not_lt_zero _)
        have g1 := hc1 k hlt
        have g2 := hc2 k hlty
        have hix : (k : Int) < (xs.length : Int) := by omega
        have hiy : (k : Int) < (ys.length : Int) := by omega
        clear hc1 hc2
        by_cases hne : nth xs k = nth ys k
        · have t1 : (nth xs k != nth ys k) = false := by simp [hne]
          have HN := Lib.hid hne
          clear hne
          go_wp2
          go_quiet (fail)
          go_wp2
          go_roundw
          case rel =>
            refine ⟨k + 1, by omega, by go_num, HQ.out.trans ⟨_, rfl⟩, fun j hj => ?_⟩
            by_cases e : j = k
            · subst e; exact HN.out
            · exact HA.out j (by omega)
          case measure => simp [intOf]; omega
        · have t1 : (nth xs k != nth ys k) = true := by simp [hne]
          have HN := Lib.hid (show ¬ xs = ys from fun e => hne (by rw [e]))
          clear hne
          go_wp2
          go_quiet (fail)
          go_wp2
          go_ret
          exact ⟨ret_bool (tell_false HN.out).symm, HQ.out.trans ⟨_, rfl⟩⟩
      · have HY := Lib.hid (show xs = ys from ext_nth HLN.out (fun i hi => HA.out i (by omega)))
        go_wp2
        go_ret
        exact ⟨ret_bool (tell_true HY.out).symm, HQ.out⟩
  · have t0 : ((xs.length : Int) != (ys.length : Int)) = true := by simp; omega
    have t00 : (xs.length != ys.length) = true := by simp [hlen]
    have HN := Lib.hid (show ¬ xs = ys from fun e => hlen (by rw [e]))
    clear hlen
    go_enter Try.func42, Try.ntmps42
    go_wp2
    go_ret
    exact ⟨ret_bool (tell_false HN.out).symm, Quiet.refl _⟩

end Go.Proofs.Ytdfggbojccfblaa

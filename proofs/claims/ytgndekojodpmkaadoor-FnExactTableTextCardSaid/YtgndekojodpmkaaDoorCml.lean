/- l06RowLess, l06Below of the model. -/
import Derived.Test.YtgndekojodpmkaaDoorCmp
import Derived.Deep.RegionHeld3
namespace Go.Proofs.YtgndekojodpmkaaDoor
open Go.RowKit Go.Deep
set_option linter.unusedVariables false

set_option maxRecDepth 100000 in
/-- Row before row, by pointers. -/
theorem l06RowLess_any (b1 o1 b2 o2 : Nat) (s t : Int) (a b : Option Addr) (xs ys : List Int) (ca cb : Nat) (w : World) (g0 : w.cell? ⟨b1, o1, none⟩ = some (.int .i64 s)) (g1 : w.cell? ⟨b1, o1 + 1, none⟩ = some (.slice a xs.length ca)) (g2 : w.cell? ⟨b2, o2, none⟩ = some (.int .i64 t)) (g3 : w.cell? ⟨b2, o2 + 1, none⟩ = some (.slice b ys.length cb)) (ha : Ints w a xs) (hb : Ints w b ys) (hlx : xs.length ≤ 9223372036854775807) (hly : ys.length ≤ 9223372036854775807) :
    Calls Tryd.prog 70 #[.pointer (some ⟨b1, o1, none⟩), .pointer (some ⟨b2, o2, none⟩)] w fun e w' => e = .returned (.bool (tell (Before (s :: xs) (t :: ys)))) ∧ Quiet w w' := by
  by_cases he : s = t
  · have t1 : (s != t) = false := by simp [he]
    have HE := Lib.hid (show tell (Before (s :: xs) (t :: ys)) = tell (Before xs ys) from tell_congr (by subst he; unfold Before; simp [lexCmp]))
    have HA := Lib.hid ha
    have HB := Lib.hid hb
    clear he ha hb
    go_enter Tryd.func70, Tryd.ntmps70
    go_wp2
    go_quiet (fail)
    have hq : Quiet w (w.drewN nq) := ⟨_, rfl⟩
    generalize w.drewN nq = w2 at *
    have k1 := (hq.cell _).trans g1
    have k3 := (hq.cell _).trans g3
    have HQ := Lib.hid hq
    clear hq
    go_wp2
    go_quiet ((go_at_call 102; refine Calls.quiet_of (l06Less_any a b xs ys ca cb _ (HA.out.quiet (HQ.out.trans ⟨_, rfl⟩)) (HB.out.quiet (HQ.out.trans ⟨_, rfl⟩)) hlx hly)))
    go_wp2
    go_ret
    exact ⟨ret_bool HE.out.symm, HQ.out.trans ⟨_, rfl⟩⟩
  · have t1 : (s != t) = true := by simp [he]
    have HE := Lib.hid (show tell (Before (s :: xs) (t :: ys)) = decide (s < t) by
      rw [decide_tell]
      refine tell_congr ?_
      unfold Before
      simp only [lexCmp]
      by_cases h1 : s < t
      · simp [h1]
      · rw [if_neg h1, if_pos (by omega)]; simp [h1])
    clear he
    go_enter Tryd.func70, Tryd.ntmps70
    go_wp2
    go_quiet (fail)
    go_wp2
    go_quiet (fail)
    go_wp2
    go_ret
    exact ⟨ret_bool HE.out.symm, Quiet.trans ⟨_, rfl⟩ ⟨_, rfl⟩⟩
/-- Numbers below limits. -/
def Under (zs ls : List Int) : Prop := zs.length = ls.length ∧ ∀ j, j < zs.length → 0 ≤ nth zs j ∧ nth zs j < nth ls j
set_option maxRecDepth 100000 in
set_option maxHeartbeats 400000 in
theorem l06Below_any (a b : Option Addr) (zs ls : List Int) (ca cb : Nat) (w : World) (ha : Ints w a zs) (hb : Ints w b ls) (hlx : zs.length ≤ 9223372036854775807) (hly : ls.length ≤ 9223372036854775807) (hlim : ∀ j, j < ls.length → 1 ≤ nth ls j ∧ nth ls j ≤ 64) :
    Calls Tryd.prog 101 #[.slice a zs.length ca, .slice b ls.length cb] w fun e w' => e = .returned (.bool (tell (Under zs ls))) ∧ Quiet w w' := by
  have HL := Lib.hid hlim
  clear hlim
  by_cases hn : zs.length = ls.length
  case neg =>
    have t1 : (zs.length != ls.length) = true := by simp [hn]
    have t2 : ((zs.length : Int) != (ls.length : Int)) = true := by simp; omega
    have HE := Lib.hid (tell_false (p := Under zs ls) (fun q => hn q.1))
    clear hn
    go_enter Tryd.func101, Tryd.ntmps101
    go_wp2
    go_ret
    exact ⟨ret_bool HE.out.symm, Quiet.refl _⟩
  have t1 : (zs.length != ls.length) = false := by simp [hn]
  have t2 : ((zs.length : Int) != (ls.length : Int)) = false := by simp [hn]
  have HN := Lib.hid hn
  clear hn
  go_enter Tryd.func101, Tryd.ntmps101
  go_wp2
  go_loopw [5] (fun i wr => ∃ k : Nat, i = .int .i64 k ∧ k ≤ zs.length ∧ Quiet w wr ∧ ∀ j, j < k → 0 ≤ nth zs j ∧ nth zs j < nth ls j)
    (fun i _ => zs.length - (intOf i).toNat)
  case atStart => exact ⟨0, rfl, Nat.zero_le _, Quiet.refl _, fun j hj => absurd hj (Nat.not_lt_zero _)⟩
  case round =>
    obtain ⟨k, rfl, hk, hq, hno⟩ := hrel
    have HQ := Lib.hid hq
    have HO := Lib.hid hno
    have hax := ha.quiet hq
    have hbx := hb.quiet hq
    clear hno hq
    by_cases hlt : k < zs.length
    · have hlt2 : k < ls.length := by have := HN.out; omega
      rcases hax with h | ⟨b1, o1, rfl, hc1⟩
      · rw [h] at hlt; exact absurd hlt (Nat.not_lt_zero _)
      rcases hbx with h | ⟨b2, o2, rfl, hc2⟩
      · rw [h] at hlt2; exact absurd hlt2 (Nat.not_lt_zero _)
      have g1 := hc1 k hlt
      have g2 := hc2 k hlt2
      have hix : (k : Int) < (zs.length : Int) := by omega
      have hiy : (k : Int) < (ls.length : Int) := by omega
      have hm := HL.out k hlt2
      have hw := Lib.hid (show IntKind.i64.wrap (nth ls k - 1) = nth ls k - 1 by rw [IntWalk.i64_in] <;> omega)
      clear hc1 hc2
      by_cases he : 0 ≤ nth zs k ∧ nth zs k < nth ls k
      · have t3 := Lib.hid (show (decide (0 ≤ nth zs k) && decide (nth zs k ≤ nth ls k - 1)) = true by simp; omega)
        have HE := Lib.hid he
        clear he
        go_wp2
        go_quiet ((go_at_call 45; refine Calls.quiet_of (v := .bool true) ?_; (try rw [hw.out]); refine (l00In_val _ 0 _ true _ t3.out).mono ?_; rintro e w' ⟨rfl, rfl⟩; exact ⟨rfl, Quiet.refl _⟩))
        go_wp2
        go_roundw
        case rel => exact ⟨k + 1, by go_num, by omega, HQ.out.trans ⟨_, rfl⟩, fun j hj => by
          by_cases e : j = k
          · subst e; exact HE.out
          · exact HO.out j (by omega)⟩
        case measure => simp [intOf]; omega
      · have t3 := Lib.hid (show (decide (0 ≤ nth zs k) && decide (nth zs k ≤ nth ls k - 1)) = false by by_cases q1 : 0 ≤ nth zs k <;> by_cases q2 : nth zs k ≤ nth ls k - 1 <;> simp [q1, q2] <;> omega)
        have HE := Lib.hid (tell_false (p := Under zs ls) (fun q => he (q.2 k hlt)))
        clear he
        go_wp2
        go_quiet ((go_at_call 45; refine Calls.quiet_of (v := .bool false) ?_; (try rw [hw.out]); refine (l00In_val _ 0 _ false _ t3.out).mono ?_; rintro e w' ⟨rfl, rfl⟩; exact ⟨rfl, Quiet.refl _⟩))
        go_wp2
        go_ret
        exact ⟨ret_bool HE.out.symm, HQ.out.trans ⟨_, rfl⟩⟩
    · have HE := Lib.hid (tell_true (p := Under zs ls) ⟨HN.out, fun j hj => HO.out j (by omega)⟩)
      go_wp2
      go_ret
      exact ⟨ret_bool HE.out.symm, HQ.out⟩
end Go.Proofs.YtgndekojodpmkaaDoor

/- RatioOf, both. -/
import Derived.Test.YtdfggbojccfblaaRat
namespace Go.Proofs.Ytdfggbojccfblaa
open Go.RowKit Go.Deep
set_option linter.unusedVariables false

theorem gcd_next (u v : Nat) : Nat.gcd v (u % v) = Nat.gcd u v := by
  rw [Nat.gcd_comm v (u % v), ← Nat.gcd_rec v u, Nat.gcd_comm]
set_option maxRecDepth 100000 in
set_option maxHeartbeats 400000 in
theorem greatest_any (x y : Nat) (w : World) (hx : x ≤ 1000000) (hy : y ≤ 1000000) :
    Calls Try.prog 49 #[.int .i64 (x : Nat), .int .i64 (y : Nat)] w fun e w' => e = .returned (.int .i64 (Nat.gcd x y : Nat)) ∧ Quiet w w' := by
  go_enter Try.func49, Try.ntmps49
  go_wp2
  go_loopw [0, 1] (fun p q wr => ∃ u v : Nat, p = .int .i64 u ∧ q = .int .i64 v ∧ Nat.gcd u v = Nat.gcd x y ∧ u ≤ 1000000 ∧ v ≤ 1000000 ∧ Quiet w wr)
    (fun _ q _ => (intOf q).toNat)
  case atStart => exact ⟨x, y, rfl, rfl, rfl, hx, hy, Quiet.refl _⟩
  case round =>
    obtain ⟨u, v, rfl, rfl, hg, hu, hv, hq⟩ := hrel
    have HG := Lib.hid hg
    have HQ := Lib.hid hq
    clear hg hq
    by_cases h0 : 0 < v
    · have hi : (0 : Int) < (v : Int) := by omega
      have z1 : ((v : Int) == 0) = false := by simp; omega
      have z2 : ¬ (v : Int) = 0 := by omega
      have em : Int.tmod (u : Int) (v : Int) = ((u % v : Nat) : Int) := rfl
      have hm := Nat.mod_lt u h0
      have HN := Lib.hid (gcd_next u v)
      generalize u % v = r at *
      go_wp2
      go_big_quiet (fail)
      go_wp2
      go_roundw
      case rel => exact ⟨v, r, rfl, by go_num, by rw [HN.out]; exact HG.out, hv, by omega, HQ.out.trans ⟨_, rfl⟩⟩
      case measure => simp [intOf]; omega
    · have hi : ¬ (0 : Int) < (v : Int) := by omega
      have HV := Lib.hid (show v = 0 by omega)
      go_wp2
      go_ret
      refine ⟨?_, HQ.out⟩
      have := HG.out
      rw [HV.out, Nat.gcd_zero_right] at this
      rw [this]; rfl
set_option maxRecDepth 100000 in
set_option maxHeartbeats 400000 in
theorem l06Gcd_any (x y : Nat) (w : World) (hx : x ≤ 1000000) (hy : y ≤ 1000000) :
    Calls Try.prog 47 #[.int .i64 (x : Nat), .int .i64 (y : Nat)] w fun e w' => e = .returned (.int .i64 (Nat.gcd x y : Nat)) ∧ Quiet w w' := by
  go_enter Try.func47, Try.ntmps47
  go_wp2
  go_loopw [0, 1] (fun p q wr => ∃ u v : Nat, p = .int .i64 u ∧ q = .int .i64 v ∧ Nat.gcd u v = Nat.gcd x y ∧ u ≤ 1000000 ∧ v ≤ 1000000 ∧ Quiet w wr)
    (fun _ q _ => (intOf q).toNat)
  case atStart => exact ⟨x, y, rfl, rfl, rfl, hx, hy, Quiet.refl _⟩
  case round =>
    obtain ⟨u, v, rfl, rfl, hg, hu, hv, hq⟩ := hrel
    have HG := Lib.hid hg
    have HQ := Lib.hid hq
    clear hg hq
    by_cases h0 : 0 < v
    · have z1 : ((v : Int) == 0) = false := by simp; omega
      have z1n : (v == 0) = false := by simp; omega
      have z3 : ((v : Int) != 0) = true := by simp; omega
      have z3n : (v != 0) = true := by simp; omega
      have z2 : ¬ (v : Int) = 0 := by omega
      have em : Int.tmod (u : Int) (v : Int) = ((u % v : Nat) : Int) := rfl
      have hm := Nat.mod_lt u h0
      have HN := Lib.hid (gcd_next u v)
      generalize u % v = r at *
      go_wp2
      go_roundw
      case rel => exact ⟨v, r, rfl, by go_num, by rw [HN.out]; exact HG.out, hv, by omega, HQ.out⟩
      case measure => simp [intOf]; omega
    · have z3 : ((v : Int) != 0) = false := by simp; omega
      have z3n : (v != 0) = false := by simp; omega
      have HV := Lib.hid (show v = 0 by omega)
      go_wp2
      go_ret
      refine ⟨?_, HQ.out⟩
      have := HG.out
      rw [HV.out, Nat.gcd_zero_right] at this
      rw [this]; rfl

/-- The greatest rank of the first holders. -/
def mostTo (z : List Int) : Nat → Int
  | 0 => 0
  | k + 1 => max (mostTo z k) (nth z (2 ^ k))
theorem most_small {z : List Int} (h : Mild z) : ∀ k, 0 ≤ mostTo z k ∧ mostTo z k ≤ 1000000
  | 0 => by simp [mostTo]
  | k + 1 => by
    have := most_small h k
    have := h (2 ^ k)
    simp only [mostTo]
    omega
set_option maxRecDepth 100000 in
theorem specMax_any (x y : Int) (w : World) : Calls Try.prog 46 #[.int .i64 x, .int .i64 y] w fun e w' => e = .returned (.int .i64 (max x y)) ∧ w = w' := by
  by_cases h : y < x
  · go_enter Try.func46, Try.ntmps46
    go_wp2
    go_ret
    exact ⟨by rw [show max x y = x by omega]; rfl, rfl⟩
  · go_enter Try.func46, Try.ntmps46
    go_wp2
    go_ret
    exact ⟨by rw [show max x y = y by omega]; rfl, rfl⟩
noncomputable def roG (h l : Int) (z : List Int) : Nat := Nat.gcd (mostTo z h.toNat).toNat l.toNat
noncomputable def roC (h l : Int) (z : List Int) : Int := if tell (RkOk h l z) = true then 0 else 1
noncomputable def roA (h l : Int) (z : List Int) : Int := if tell (RkOk h l z) = true then mostTo z h.toNat / (roG h l z : Int) else 0
noncomputable def roB (h l : Int) (z : List Int) : Int := if tell (RkOk h l z) = true then l / (roG h l z : Int) else 0
theorem ro_no {h l : Int} {z : List Int} (k : ¬ RkOk h l z) : roA h l z = 0 ∧ roB h l z = 0 ∧ roC h l z = 1 := by
  have := tell_false k
  refine ⟨?_, ?_, ?_⟩
  · unfold roA; rw [if_neg]; rw [this]; simp
  · unfold roB; rw [if_neg]; rw [this]; simp
  · unfold roC; rw [if_neg]; rw [this]; simp
theorem ro_yes {h l : Int} {z : List Int} (k : RkOk h l z) : roA h l z = mostTo z h.toNat / (roG h l z : Int) ∧ roB h l z = l / (roG h l z : Int) ∧ roC h l z = 0 := ⟨if_pos (tell_true k), if_pos (tell_true k), if_pos (tell_true k)⟩

set_option maxRecDepth 100000 in
set_option maxHeartbeats 2000000 in
theorem specRo_any (h l : Int) (a : Option Addr) (z : List Int) (c : Nat) (w : World) (hr : Ints w a z) (hl : LenI z) :
    Calls Try.prog 21 #[.agg #[.int .i64 h, .int .i64 l, .slice a z.length c]] w fun e w' => e = .returned (.tuple #[.int .i64 (roA h l z), .int .i64 (roB h l z), .int .i64 (roC h l z)]) ∧ Below w.heap.size w w' := by
  have hx := boxes_new w #[.int .i64 h, .int .i64 l, .slice a z.length c] 27
  have hb1 := (Below.refl w.heap.size w).alloc (Nat.le_refl _) (.cells #[.int .i64 h, .int .i64 l, .slice a z.length c] 27)
  have HX := Lib.hid hx
  have HB := Lib.hid hb1
  have HR := Lib.hid (hr.step hb1)
  have HL := Lib.hid hl
  clear hx hb1 hr hl
  by_cases hk : RkOk h l z
  case neg =>
    have HT := Lib.hid (tell_false hk)
    have HV := Lib.hid (ro_no hk)
    clear hk
    go_enter Try.func21, Try.ntmps21
    go_wp2_with fail
    refine (l07Ok_any w.heap.size h l a z c _ HX.out HR.out HL.out).mono ?_
    generalize w.alloc (.cells #[.int .i64 h, .int .i64 l, .slice a z.length c] 27) = w1 at *
    rintro e w2 ⟨rfl, hq⟩
    have HB2 := Lib.hid (chain HB.out (quiet_below hq))
    clear hq
    rw [HT.out]
    go_wp2_with fail
    go_ret3
    exact ⟨by rw [HV.out.1, HV.out.2.1, HV.out.2.2]; rfl, HB2.out⟩
  have hh := hk.1.1
  have hu := hk.1.2.1
  obtain ⟨m, rfl⟩ : ∃ m : Nat, h = (m : Int) := ⟨h.toNat, by omega⟩
  have m5 : m ≤ 5 := by omega
  obtain ⟨ln, rfl⟩ : ∃ ln : Nat, l = (ln : Int) := ⟨l.toNat, by omega⟩
  have HK := Lib.hid hk
  have HT := Lib.hid (tell_true hk)
  have HM := Lib.hid (most_small hk.2.2.1.mild)
  have HZL := Lib.hid hk.len
  have hln1 : 1 ≤ ln := by omega
  have hln2 : ln ≤ 1000000 := by omega
  clear hk hh hu
  go_enter Try.func21, Try.ntmps21
  go_wp2_with fail
  refine (l07Ok_any w.heap.size m ln a z c _ HX.out HR.out HL.out).mono ?_
  generalize w.alloc (.cells #[.int .i64 (m : Int), .int .i64 (ln : Int), .slice a z.length c] 27) = w1 at *
  rintro e w2 ⟨rfl, hq⟩
  have HB2 := Lib.hid (chain HB.out (quiet_below hq))
  have HR2 := Lib.hid (HR.out.quiet hq)
  have HX2 := Lib.hid (HX.out.quiet hq)
  have p0 := HX2.out.m0
  have p1 := HX2.out.m1
  have p2 := HX2.out.m2
  clear hq
  rw [HT.out]
  go_wp2_with fail
  go_loopw [5, 6] (fun t i wr => ∃ k : Nat, i = .int .i64 k ∧ k ≤ m ∧ t = .int .i64 (mostTo z k) ∧ Quiet w2 wr)
    (fun _ i _ => m - (intOf i).toNat)
  case atStart => exact ⟨0, rfl, Nat.zero_le _, rfl, Quiet.refl _⟩
  case round =>
    obtain ⟨k, rfl, hkm, rfl, hq⟩ := hrel
    have HQ := Lib.hid hq
    have q0 := (hq.cell _).trans p0
    have q1 := (hq.cell _).trans p1
    have q2 := (hq.cell _).trans p2
    by_cases hlt : k < m
    · have hi : (k : Int) < (m : Int) := by omega
      have hpl : 2 ^ k < z.length := by rw [HZL.out]; exact Nat.pow_lt_pow_right (by decide) hlt
      have wk := wrap64_pow5 k (by omega)
      rcases HR2.out.quiet hq with hh | ⟨bb, oo, rfl, hc⟩
      · rw [hh] at hpl; exact absurd hpl (Nat.not_lt_zero _)
      have g1 := hc _ hpl
      have hpi : ((2 ^ k : Nat) : Int) < (z.length : Int) := by omega
      have HS := Lib.hid (show mostTo z (k + 1) = max (mostTo z k) (nth z (2 ^ k)) from rfl)
      generalize 2 ^ k = p at *
      generalize nth z p = v at *
      generalize mostTo z k = t at *
      clear hq hc p0 p1 p2
      go_wp2_with fail
      refine (specMax_any t v _).mono ?_
      rintro e w3 ⟨rfl, rfl⟩
      go_wp2_with fail
      go_roundw
      case rel => exact ⟨k + 1, by go_num, by omega, by rw [HS.out], HQ.out⟩
      case measure => simp [intOf]; omega
    · have hi : ¬ (k : Int) < (m : Int) := by omega
      obtain rfl : k = m := by omega
      have hms := HM.out k
      obtain ⟨t, ht⟩ : ∃ t : Nat, mostTo z k = (t : Int) := ⟨(mostTo z k).toNat, by omega⟩
      have ht6 : t ≤ 1000000 := by omega
      have HTT := Lib.hid ht
      have HRO := Lib.hid (ro_yes HK.out)
      have HGG := Lib.hid (show roG (k : Int) (ln : Int) z = Nat.gcd t ln by unfold roG; rw [Int.toNat_natCast, ht]; rfl)
      have hg1 : 0 < Nat.gcd t ln := Nat.gcd_pos_of_pos_right _ (by omega)
      have hg2 : Nat.gcd t ln ≤ ln := Nat.gcd_le_right _ (by omega)
      rw [ht]
      clear hq p0 p1 p2 hms ht
      go_wp2_with fail
      refine (l06Gcd_any t ln _ ht6 hln2).mono ?_
      rintro e w3 ⟨rfl, hq3⟩
      have r1 := (hq3.cell _).trans q1
      have HQ3 := Lib.hid hq3
      generalize Nat.gcd t ln = G at *
      have zg : ((G : Int) == 0) = false := by simp; omega
      have zg2 : ¬ (G : Int) = 0 := by omega
      have d1 : 0 ≤ (t : Int) / (G : Int) ∧ (t : Int) / (G : Int) ≤ t := ⟨Int.ediv_nonneg (by omega) (by omega), by have := Nat.div_le_self t G; have e : (t : Int) / (G : Int) = ((t / G : Nat) : Int) := rfl; omega⟩
      have d2 : 0 ≤ (ln : Int) / (G : Int) ∧ (ln : Int) / (G : Int) ≤ ln := ⟨Int.ediv_nonneg (by omega) (by omega), by have := Nat.div_le_self ln G; have e : (ln : Int) / (G : Int) = ((ln / G : Nat) : Int) := rfl; omega⟩
      have v1 : wrap64 ((t : Int) / (G : Int)) = (t : Int) / (G : Int) := IntWalk.wrap64_in _ (by omega)
      have v2 : wrap64 ((ln : Int) / (G : Int)) = (ln : Int) / (G : Int) := IntWalk.wrap64_in _ (by omega)
      have V1 := Lib.hid v1
      have V2 := Lib.hid v2
      clear q0 q1 q2 hq3 d1 d2
      go_wp2
      go_big_quiet (fail)
      go_wp2
      go_ret3
      refine ⟨?_, chain HB2.out (quiet_below ((HQ.out.trans HQ3.out).trans ⟨_, rfl⟩))⟩
      rw [HRO.out.1, HRO.out.2.1, HRO.out.2.2, HGG.out, Int.toNat_natCast, HTT.out]
      show Ending.returned (.tuple #[.int .i64 (wrap64 ((t : Int) / (G : Int))), .int .i64 (wrap64 ((ln : Int) / (G : Int))), .int .i64 0]) = _
      rw [V1.out, V2.out]
set_option maxRecDepth 100000 in
set_option maxHeartbeats 2000000 in
theorem implRo_any (h l : Int) (a : Option Addr) (z : List Int) (c : Nat) (w : World) (hr : Ints w a z) (hl : LenI z) :
    Calls Try.prog 22 #[.agg #[.int .i64 h, .int .i64 l, .slice a z.length c]] w fun e w' => e = .returned (.tuple #[.int .i64 (roA h l z), .int .i64 (roB h l z), .int .i64 (roC h l z)]) ∧ Below w.heap.size w w' := by
  have hx := boxes_new w #[.int .i64 h, .int .i64 l, .slice a z.length c] 27
  have hb1 := (Below.refl w.heap.size w).alloc (Nat.le_refl _) (.cells #[.int .i64 h, .int .i64 l, .slice a z.length c] 27)
  have HX := Lib.hid hx
  have HB := Lib.hid hb1
  have HR := Lib.hid (hr.step hb1)
  have HL := Lib.hid hl
  clear hx hb1 hr hl
  by_cases hk : RkOk h l z
  case neg =>
    have HT := Lib.hid (tell_false hk)
    have HV := Lib.hid (ro_no hk)
    clear hk
    go_enter Try.func22, Try.ntmps22
    go_wp2_with fail
    refine (implVr_any h l a z c _ HR.out HL.out).mono ?_
    generalize w.alloc (.cells #[.int .i64 h, .int .i64 l, .slice a z.length c] 27) = w1 at *
    rintro e w2 ⟨rfl, hq⟩
    have HB2 := Lib.hid (chain HB.out hq)
    clear hq
    rw [HT.out]
    go_wp2_with fail
    go_ret3
    exact ⟨by rw [HV.out.1, HV.out.2.1, HV.out.2.2]; rfl, HB2.out⟩
  have hh := hk.1.1
  have hu := hk.1.2.1
  obtain ⟨m, rfl⟩ : ∃ m : Nat, h = (m : Int) := ⟨h.toNat, by omega⟩
  have m5 : m ≤ 5 := by omega
  obtain ⟨ln, rfl⟩ : ∃ ln : Nat, l = (ln : Int) := ⟨l.toNat, by omega⟩
  have HK := Lib.hid hk
  have HT := Lib.hid (tell_true hk)
  have HM := Lib.hid (most_small hk.2.2.1.mild)
  have HZL := Lib.hid hk.len
  have hln1 : 1 ≤ ln := by omega
  have hln2 : ln ≤ 1000000 := by omega
  have HWT := Lib.hid (fun (k : Nat) (W : World) (hk : k < m) => with_any 0 (k : Int) W (by decide) (by omega) (by omega))
  clear hk hh hu
  go_enter Try.func22, Try.ntmps22
  go_wp2_with fail
  refine (implVr_any m ln a z c _ HR.out HL.out).mono ?_
  generalize w.alloc (.cells #[.int .i64 (m : Int), .int .i64 (ln : Int), .slice a z.length c] 27) = w1 at *
  rintro e w2 ⟨rfl, hq⟩
  have HB2 := Lib.hid (chain HB.out hq)
  have HR2 := Lib.hid (HR.out.step hq)
  have HX2 := Lib.hid (HX.out.step hq)
  have p0 := HX2.out.m0
  have p1 := HX2.out.m1
  have p2 := HX2.out.m2
  clear hq
  rw [HT.out]
  go_wp2_with fail
  go_loopw [5, 13] (fun t i wr => ∃ k : Nat, i = .int .i64 k ∧ k ≤ m ∧ t = .int .i64 (mostTo z k) ∧ Quiet w2 wr)
    (fun _ i _ => m - (intOf i).toNat)
  case atStart => exact ⟨0, rfl, Nat.zero_le _, rfl, Quiet.refl _⟩
  case round =>
    obtain ⟨k, rfl, hkm, rfl, hq⟩ := hrel
    have HQ := Lib.hid hq
    have q0 := (hq.cell _).trans p0
    have q1 := (hq.cell _).trans p1
    have q2 := (hq.cell _).trans p2
    by_cases hlt : k < m
    · have hi : (k : Int) < (m : Int) := by omega
      have hpl : 2 ^ k < z.length := by rw [HZL.out]; exact Nat.pow_lt_pow_right (by decide) hlt
      have HPW := Lib.hid (show (0 ||| 2 ^ (k : Int).toNat : Nat) = 2 ^ k by rw [Nat.zero_or, Int.toNat_natCast])
      rcases HR2.out.quiet hq with hh | ⟨bb, oo, rfl, hc⟩
      · rw [hh] at hpl; exact absurd hpl (Nat.not_lt_zero _)
      have g1 := hc _ hpl
      have hpi : ((2 ^ k : Nat) : Int) < (z.length : Int) := by omega
      have HS := Lib.hid (show mostTo z (k + 1) = max (mostTo z k) (nth z (2 ^ k)) from rfl)
      generalize 2 ^ k = p at *
      generalize nth z p = v at *
      generalize mostTo z k = t at *
      clear hq hc p0 p1 p2
      have HWI := Lib.hid (fun W => HWT.out k W hlt)
      rw [HPW.out] at HWI
      by_cases htv : t < v
      · have HS2 := Lib.hid (show max t v = v by omega)
        go_wp2
        go_big_quiet ((go_at_call 48; exact Calls.quiet_of_same (swapped (HWI.out _))))
        go_wp2
        go_roundw
        case rel => exact ⟨k + 1, by go_num, by omega, by rw [HS.out, HS2.out], HQ.out.trans ⟨_, rfl⟩⟩
        case measure => simp [intOf]; omega
      · have HS2 := Lib.hid (show max t v = t by omega)
        go_wp2
        go_big_quiet ((go_at_call 48; exact Calls.quiet_of_same (swapped (HWI.out _))))
        go_wp2
        go_roundw
        case rel => exact ⟨k + 1, by go_num, by omega, by rw [HS.out, HS2.out], HQ.out.trans ⟨_, rfl⟩⟩
        case measure => simp [intOf]; omega
    · have hi : ¬ (k : Int) < (m : Int) := by omega
      obtain rfl : k = m := by omega
      have hms := HM.out k
      obtain ⟨t, ht⟩ : ∃ t : Nat, mostTo z k = (t : Int) := ⟨(mostTo z k).toNat, by omega⟩
      have ht6 : t ≤ 1000000 := by omega
      have HTT := Lib.hid ht
      have HRO := Lib.hid (ro_yes HK.out)
      have HGG := Lib.hid (show roG (k : Int) (ln : Int) z = Nat.gcd t ln by unfold roG; rw [Int.toNat_natCast, ht]; rfl)
      have hg1 : 0 < Nat.gcd t ln := Nat.gcd_pos_of_pos_right _ (by omega)
      have hg2 : Nat.gcd t ln ≤ ln := Nat.gcd_le_right _ (by omega)
      rw [ht]
      clear hq p0 p1 p2 hms ht
      go_wp2_with fail
      refine (greatest_any t ln _ ht6 hln2).mono ?_
      rintro e w3 ⟨rfl, hq3⟩
      have r1 := (hq3.cell _).trans q1
      have HQ3 := Lib.hid hq3
      generalize Nat.gcd t ln = G at *
      have zg : ((G : Int) == 0) = false := by simp; omega
      have zg2 : ¬ (G : Int) = 0 := by omega
      have d1 : 0 ≤ (t : Int) / (G : Int) ∧ (t : Int) / (G : Int) ≤ t := ⟨Int.ediv_nonneg (by omega) (by omega), by have := Nat.div_le_self t G; have e : (t : Int) / (G : Int) = ((t / G : Nat) : Int) := rfl; omega⟩
      have d2 : 0 ≤ (ln : Int) / (G : Int) ∧ (ln : Int) / (G : Int) ≤ ln := ⟨Int.ediv_nonneg (by omega) (by omega), by have := Nat.div_le_self ln G; have e : (ln : Int) / (G : Int) = ((ln / G : Nat) : Int) := rfl; omega⟩
      have v1 : wrap64 ((t : Int) / (G : Int)) = (t : Int) / (G : Int) := IntWalk.wrap64_in _ (by omega)
      have v2 : wrap64 ((ln : Int) / (G : Int)) = (ln : Int) / (G : Int) := IntWalk.wrap64_in _ (by omega)
      have V1 := Lib.hid v1
      have V2 := Lib.hid v2
      clear q0 q1 q2 hq3 d1 d2
      go_wp2
      go_big_quiet (fail)
      go_wp2
      go_ret3
      refine ⟨?_, chain HB2.out (quiet_below ((HQ.out.trans HQ3.out).trans ⟨_, rfl⟩))⟩
      rw [HRO.out.1, HRO.out.2.1, HRO.out.2.2, HGG.out, Int.toNat_natCast, HTT.out]
      show Ending.returned (.tuple #[.int .i64 (wrap64 ((t : Int) / (G : Int))), .int .i64 (wrap64 ((ln : Int) / (G : Int))), .int .i64 0]) = _
      rw [V1.out, V2.out]
end Go.Proofs.Ytdfggbojccfblaa

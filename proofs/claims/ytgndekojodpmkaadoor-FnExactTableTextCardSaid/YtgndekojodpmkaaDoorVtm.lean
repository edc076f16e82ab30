/- Valid tables: l06Shape, l06Ok, ValidTable of the model. -/
import Derived.Test.YtgndekojodpmkaaDoorVt0
namespace Go.Proofs.YtgndekojodpmkaaDoor
open Go.RowKit Go.Deep
set_option linter.unusedVariables false

/-- What l06Shape asks. -/
def ShapeOk (h : Int) (yo : List Int) (z : List (List Int)) : Prop := HeadOk h yo ∧ (1 ≤ z.length ∧ z.length ≤ 700) ∧ ∀ i, i < z.length → CaseOk h yo (sec z i) (shs z i)
theorem in_bool {n lo hi : Int} : (decide (lo ≤ n) && decide (n ≤ hi)) = tell (lo ≤ n ∧ n ≤ hi) := by
  rw [← decide_tell]
  by_cases h1 : lo ≤ n <;> by_cases h2 : n ≤ hi <;> simp [h1, h2]
theorem l00In_tell (n lo hi : Int) (w : World) : Calls Tryd.prog 45 #[.int .i64 n, .int .i64 lo, .int .i64 hi] w fun e w' => e = .returned (.bool (tell (lo ≤ n ∧ n ≤ hi))) ∧ w = w' := l00In_val n lo hi _ w in_bool

set_option maxRecDepth 100000 in
set_option maxHeartbeats 2000000 in
theorem l06Shape_any (q0 : Nat) (h : Int) (ao : Option Addr) (yo : List Int) (co : Nat) (a : Option Addr) (z : List (List Int)) (c : Nat) (w : World) (hx : Boxes w q0 30 #[.int .i64 h, .slice ao yo.length co, .slice a z.length c]) (hr : InT w ao yo a z) (hl : LenT yo z) :
    Calls Tryd.prog 69 #[.pointer (some ⟨q0, 0, none⟩)] w fun e w' => e = .returned (.bool (tell (ShapeOk h yo z))) ∧ Quiet w w' := by
  have hlo : yo.length ≤ 9223372036854775807 := hl.o
  have hlz : z.length ≤ 9223372036854775807 := hl.r.n
  have HL := Lib.hid hl
  have HR := Lib.hid hr
  have c0 := hx.m0
  have c1 := hx.m1
  have c2 := hx.m2
  clear hl hr hx
  by_cases h1 : 1 ≤ h ∧ h ≤ 64
  case neg =>
    have HT := Lib.hid (tell_false h1)
    have HN := Lib.hid (tell_false (p := ShapeOk h yo z) (fun q => h1 q.1.1))
    clear h1
    go_enter Tryd.func69, Tryd.ntmps69
    go_wp2_with fail
    refine (l00In_tell h 1 64 _).mono ?_
    rintro e w' ⟨rfl, rfl⟩
    rw [HT.out]
    go_wp2_with fail
    go_ret
    exact ⟨ret_bool HN.out.symm, Quiet.refl _⟩
  have HT := Lib.hid (tell_true h1)
  by_cases h2 : (1 : Int) ≤ yo.length ∧ (yo.length : Int) ≤ 7
  case neg =>
    have HT2 := Lib.hid (tell_false h2)
    have HN := Lib.hid (tell_false (p := ShapeOk h yo z) (fun q => h2 ⟨by have := q.1.2.1.1; omega, by have := q.1.2.1.2; omega⟩))
    clear h1 h2
    go_enter Tryd.func69, Tryd.ntmps69
    go_wp2_with fail
    refine (l00In_tell h 1 64 _).mono ?_
    rintro e w' ⟨rfl, rfl⟩
    rw [HT.out]
    go_wp2_with fail
    refine (l00In_tell yo.length 1 7 _).mono ?_
    rintro e w' ⟨rfl, rfl⟩
    rw [HT2.out]
    go_wp2_with fail
    go_ret
    exact ⟨ret_bool HN.out.symm, Quiet.refl _⟩
  have HT2 := Lib.hid (tell_true h2)
  by_cases h3 : (1 : Int) ≤ z.length ∧ (z.length : Int) ≤ 700
  case neg =>
    have HT3 := Lib.hid (tell_false h3)
    have HN := Lib.hid (tell_false (p := ShapeOk h yo z) (fun q => h3 ⟨by have := q.2.1.1; omega, by have := q.2.1.2; omega⟩))
    clear h1 h2 h3
    go_enter Tryd.func69, Tryd.ntmps69
    go_wp2_with fail
    refine (l00In_tell h 1 64 _).mono ?_
    rintro e w' ⟨rfl, rfl⟩
    rw [HT.out]
    go_wp2_with fail
    refine (l00In_tell yo.length 1 7 _).mono ?_
    rintro e w' ⟨rfl, rfl⟩
    rw [HT2.out]
    go_wp2_with fail
    refine (l00In_tell z.length 1 700 _).mono ?_
    rintro e w' ⟨rfl, rfl⟩
    rw [HT3.out]
    go_wp2_with fail
    go_ret
    exact ⟨ret_bool HN.out.symm, Quiet.refl _⟩
  have HT3 := Lib.hid (tell_true h3)
  have H1 := Lib.hid h1
  have H2 := Lib.hid h2
  have H3 := Lib.hid h3
  have hh1 : h ≤ 64 := h1.2
  have hh0 : 1 ≤ h := h1.1
  clear h1 h2 h3
  go_enter Tryd.func69, Tryd.ntmps69
  go_wp2_with fail
  refine (l00In_tell h 1 64 _).mono ?_
  rintro e w' ⟨rfl, rfl⟩
  rw [HT.out]
  go_wp2_with fail
  refine (l00In_tell yo.length 1 7 _).mono ?_
  rintro e w' ⟨rfl, rfl⟩
  rw [HT2.out]
  go_wp2_with fail
  refine (l00In_tell z.length 1 700 _).mono ?_
  rintro e w' ⟨rfl, rfl⟩
  rw [HT3.out]
  go_wp2_with fail
  go_loop [3] (fun i => ∃ k : Nat, i = .int .i64 k ∧ k ≤ yo.length ∧ ∀ j, j < k → 1 ≤ nth yo j ∧ nth yo j ≤ 64)
    (fun i => yo.length - (intOf i).toNat)
  case atStart => exact ⟨0, rfl, Nat.zero_le _, fun j hj => absurd hj (Nat.not_lt_zero _)⟩
  case round =>
    obtain ⟨k, rfl, hk, hno⟩ := hrel
    have HNO := Lib.hid hno
    clear hno
    by_cases hlt : k < yo.length
    · rcases HR.out.o with hh | ⟨b1, o1, rfl, hc1⟩
      · rw [hh] at hlt; exact absurd hlt (Nat.not_lt_zero _)
      have g1 := hc1 k hlt
      have hi0 : (k : Int) < (yo.length : Int) := by omega
      clear hc1
      by_cases e1 : 1 ≤ nth yo k ∧ nth yo k ≤ 64
      · have TT := Lib.hid (tell_true e1)
        have HE := Lib.hid e1
        clear e1
        go_wp2_with fail
        refine (l00In_tell (nth yo k) 1 64 _).mono ?_
        rintro e w' ⟨rfl, rfl⟩
        rw [TT.out]
        go_wp2_with fail
        go_round
        case rel => exact ⟨k + 1, by go_num, by omega, fun j hj => by
          by_cases e : j = k
          · subst e; exact HE.out
          · exact HNO.out j (by omega)⟩
        case measure => simp [intOf]; omega
      · have TT := Lib.hid (tell_false e1)
        have HX := Lib.hid (tell_false (p := ShapeOk h yo z) (fun q => e1 (q.1.2.2 k hlt)))
        clear e1
        go_wp2_with fail
        refine (l00In_tell (nth yo k) 1 64 _).mono ?_
        rintro e w' ⟨rfl, rfl⟩
        rw [TT.out]
        go_wp2_with fail
        go_ret
        exact ⟨ret_bool HX.out.symm, Quiet.refl _⟩
    have HS := Lib.hid (show SizesOk yo from fun j hj => HNO.out j (by omega))
    clear HNO
    go_wp2_with fail
    go_loopw [4] (fun i wr => ∃ k : Nat, i = .int .i64 k ∧ k ≤ z.length ∧ Quiet w wr ∧ ∀ j, j < k → CaseOk h yo (sec z j) (shs z j))
      (fun i _ => z.length - (intOf i).toNat)
    case atStart => exact ⟨0, rfl, Nat.zero_le _, Quiet.refl _, fun j hj => absurd hj (Nat.not_lt_zero _)⟩
    case round =>
      obtain ⟨k2, rfl, hk2, hq, hno⟩ := hrel
      have HQ := Lib.hid hq
      have HNO := Lib.hid hno
      have d0 := (hq.cell _).trans c0
      have d1 := (hq.cell _).trans c1
      have d2 := (hq.cell _).trans c2
      clear hno hq c0 c1 c2
      by_cases hlt2 : k2 < z.length
      · rcases HR.out.r.quiet HQ.out with hh | ⟨b, o, rfl, hc⟩
        · rw [hh] at hlt2; exact absurd hlt2 (Nat.not_lt_zero _)
        obtain ⟨ai, ci, g0, g1, hints⟩ := hc k2 hlt2
        have hi0 : (k2 : Int) < (z.length : Int) := by omega
        have HI := Lib.hid hints
        have HO := Lib.hid (HR.out.o.quiet HQ.out)
        have hls := HL.out.r.r k2 hlt2
        have hw := Lib.hid (show IntKind.i64.wrap (h - 1) = h - 1 by have := H1.out.1; rw [IntWalk.i64_in] <;> omega)
        clear hc hints
        by_cases e1 : 0 ≤ sec z k2 ∧ sec z k2 ≤ h - 1
        case neg =>
          have TT := Lib.hid (tell_false e1)
          have HX := Lib.hid (tell_false (p := ShapeOk h yo z) (fun q => e1 (by have := (q.2.2 k2 hlt2).1; omega)))
          clear e1
          go_wp2
          go_big_quiet ((go_at_call 45; refine Calls.quiet_of (v := .bool false) ?_; rw [← TT.out]; (try rw [hw.out]); refine (l00In_tell _ 0 _ _).mono ?_; rintro e w' ⟨rfl, rfl⟩; exact ⟨rfl, Quiet.refl _⟩))
          go_wp2
          go_ret
          exact ⟨ret_bool HX.out.symm, HQ.out.trans ⟨_, rfl⟩⟩
        have TT := Lib.hid (tell_true e1)
        have HE1 := Lib.hid e1
        clear e1
        obtain ⟨u, hu⟩ : ∃ u : Bool, tell (Under (shs z k2) yo) = u := ⟨_, rfl⟩
        have HU := Lib.hid hu
        clear hu
        generalize hs0 : sec z k2 = s0 at g0
        have HS0 := Lib.hid hs0
        generalize hs1 : shs z k2 = s1 at g1 hls HI HU
        have HS1 := Lib.hid hs1
        rw [hs0] at TT HE1
        clear hs0 hs1
        go_wp2
        go_big_quiet (first | (go_at_call 45; refine Calls.quiet_of (v := .bool true) ?_; rw [← TT.out]; (try rw [hw.out]); refine (l00In_tell _ 0 _ _).mono ?_; rintro e w' ⟨rfl, rfl⟩; exact ⟨rfl, Quiet.refl _⟩) | (go_at_call 101; refine Calls.quiet_of (v := .bool u) ?_; rw [← HU.out]; exact (l06Below_any ai ao s1 yo ci co _ (HI.out.quiet ⟨_, rfl⟩) (HO.out.quiet ⟨_, rfl⟩) hls hlo HS.out)))
        cases u with
        | false =>
          have HX := Lib.hid (tell_false (p := ShapeOk h yo z) (fun q => of_tell_false HU.out (by rw [← HS1.out]; exact (q.2.2 k2 hlt2).2)))
          go_wp2
          go_ret
          exact ⟨ret_bool HX.out.symm, HQ.out.trans ⟨_, rfl⟩⟩
        | true =>
          have HE2 := Lib.hid (show CaseOk h yo (sec z k2) (shs z k2) by rw [HS0.out, HS1.out]; exact ⟨⟨HE1.out.1, by have := HE1.out.2; omega⟩, of_tell HU.out⟩)
          go_wp2
          go_roundw
          case rel => exact ⟨k2 + 1, by go_num, by omega, HQ.out.trans ⟨_, rfl⟩, fun j hj => by
            by_cases e : j = k2
            · subst e; exact HE2.out
            · exact HNO.out j (by omega)⟩
          case measure => simp [intOf]; omega
      · have HX := Lib.hid (tell_true (p := ShapeOk h yo z) ⟨⟨H1.out, ⟨by have := H2.out.1; omega, by have := H2.out.2; omega⟩, HS.out⟩, ⟨by have := H3.out.1; omega, by have := H3.out.2; omega⟩, fun j hj => HNO.out j (by omega)⟩)
        go_wp2_with fail
        go_ret
        exact ⟨ret_bool HX.out.symm, HQ.out⟩

set_option maxRecDepth 100000 in
set_option maxHeartbeats 1000000 in
theorem l06Ok_any (q0 : Nat) (h : Int) (ao : Option Addr) (yo : List Int) (co : Nat) (a : Option Addr) (z : List (List Int)) (c : Nat) (w : World) (hx : Boxes w q0 30 #[.int .i64 h, .slice ao yo.length co, .slice a z.length c]) (hr : InT w ao yo a z) (hl : LenT yo z) :
    Calls Tryd.prog 35 #[.pointer (some ⟨q0, 0, none⟩)] w fun e w' => e = .returned (.bool (tell (TabOk h yo z))) ∧ Quiet w w' := by
  have hlz : z.length ≤ 9223372036854775807 := hl.r.n
  have HL := Lib.hid hl
  have HR := Lib.hid hr
  have HX := Lib.hid hx
  clear hl hr hx
  go_enter Tryd.func35, Tryd.ntmps35
  go_wp2_with fail
  refine (l06Shape_any q0 h ao yo co a z c w HX.out HR.out HL.out).mono ?_
  rintro e w3 ⟨rfl, hq3⟩
  have HQ3 := Lib.hid hq3
  clear hq3
  by_cases hm : ShapeOk h yo z
  case neg =>
    have HT := Lib.hid (tell_false hm)
    have HN := Lib.hid (tell_false (p := TabOk h yo z) (fun q => hm ⟨q.1, q.2.1, q.2.2.1⟩))
    clear hm
    rw [HT.out]
    go_wp2_with fail
    go_ret
    exact ⟨ret_bool HN.out.symm, HQ3.out⟩
  have HT := Lib.hid (tell_true hm)
  have HM := Lib.hid hm
  have hz1 : 1 ≤ z.length := hm.2.1.1
  clear hm
  rw [HT.out]
  have c2 := (HQ3.out.cell _).trans HX.out.m2
  go_wp2_with fail
  go_loopw [3] (fun i wr => ∃ k : Nat, i = .int .i64 (k + 1 : Nat) ∧ k + 1 ≤ z.length ∧ Quiet w wr ∧ ∀ j, j < k → ¬ Before (nthL z (j + 1)) (nthL z j))
    (fun i _ => z.length - (intOf i).toNat)
  case atStart => exact ⟨0, rfl, hz1, HQ3.out, fun j hj => absurd hj (Nat.not_lt_zero _)⟩
  case round =>
    obtain ⟨k, rfl, hk, hq, hno⟩ := hrel
    have HQ := Lib.hid hq
    have HNO := Lib.hid hno
    have d2 := (hq.cell _).trans HX.out.m2
    clear hno hq c2
    by_cases hlt : k + 1 < z.length
    · rcases HR.out.r.quiet HQ.out with hh | ⟨b, o, rfl, hc⟩
      · rw [hh] at hlt; exact absurd hlt (Nat.not_lt_zero _)
      obtain ⟨ai, ci, g0, g1, hi1⟩ := hc k (by omega)
      obtain ⟨bi, di, g2, g3, hi2⟩ := hc (k + 1) hlt
      have HI1 := Lib.hid hi1
      have HI2 := Lib.hid hi2
      have G := Lib.hid (And.intro g0 (And.intro g1 (And.intro g2 g3)))
      have hls := HL.out.r.r k (by omega)
      have hls2 := HL.out.r.r (k + 1) hlt
      have e1 := Lib.hid (row_split (HL.out.full k (by omega)))
      have e2 := Lib.hid (row_split (HL.out.full (k + 1) hlt))
      have i0 : ((k + 1 : Nat) : Int) < (z.length : Int) := by omega
      have i1 : (k : Int) < (z.length : Int) := by omega
      have w1 : ((k + 1 : Nat) : Int) - 1 = (k : Int) := by omega
      have w2 : ((k : Int) + 1) - 1 = (k : Int) := by omega
      clear hc hi1 hi2 g0 g1 g2 g3
      by_cases hbf : Before (nthL z (k + 1)) (nthL z k)
      · have TT := Lib.hid (show tell (Before (sec z (k + 1) :: shs z (k + 1)) (sec z k :: shs z k)) = true by rw [← e1.out, ← e2.out]; exact tell_true hbf)
        have HXX := Lib.hid (tell_false (p := TabOk h yo z) (fun q => q.2.2.2 k hlt hbf))
        clear hbf
        go_wp2
        go_big_quiet ((go_at_call 70; refine Calls.quiet_of (v := .bool true) ?_; rw [← TT.out]; exact (l06RowLess_any b _ b _ (sec z (k + 1)) (sec z k) bi ai (shs z (k + 1)) (shs z k) di ci _ (((show Quiet _ _ from ⟨_, rfl⟩).cell _).trans G.out.2.2.1) (((show Quiet _ _ from ⟨_, rfl⟩).cell _).trans G.out.2.2.2) (((show Quiet _ _ from ⟨_, rfl⟩).cell _).trans G.out.1) (((show Quiet _ _ from ⟨_, rfl⟩).cell _).trans G.out.2.1) (HI2.out.quiet ⟨_, rfl⟩) (HI1.out.quiet ⟨_, rfl⟩) hls2 hls)))
        go_wp2
        go_ret
        exact ⟨ret_bool HXX.out.symm, HQ.out.trans ⟨_, rfl⟩⟩
      · have TT := Lib.hid (show tell (Before (sec z (k + 1) :: shs z (k + 1)) (sec z k :: shs z k)) = false by rw [← e1.out, ← e2.out]; exact tell_false hbf)
        have HBF := Lib.hid hbf
        clear hbf
        go_wp2
        go_big_quiet ((go_at_call 70; refine Calls.quiet_of (v := .bool false) ?_; rw [← TT.out]; exact (l06RowLess_any b _ b _ (sec z (k + 1)) (sec z k) bi ai (shs z (k + 1)) (shs z k) di ci _ (((show Quiet _ _ from ⟨_, rfl⟩).cell _).trans G.out.2.2.1) (((show Quiet _ _ from ⟨_, rfl⟩).cell _).trans G.out.2.2.2) (((show Quiet _ _ from ⟨_, rfl⟩).cell _).trans G.out.1) (((show Quiet _ _ from ⟨_, rfl⟩).cell _).trans G.out.2.1) (HI2.out.quiet ⟨_, rfl⟩) (HI1.out.quiet ⟨_, rfl⟩) hls2 hls)))
        go_wp2
        go_roundw
        case rel => exact ⟨k + 1, by go_num, by omega, HQ.out.trans ⟨_, rfl⟩, fun j hj => by
          by_cases e : j = k
          · subst e; exact HBF.out
          · exact HNO.out j (by omega)⟩
        case measure => simp [intOf]; omega
    · have HXX := Lib.hid (tell_true (p := TabOk h yo z) ⟨HM.out.1, HM.out.2.1, HM.out.2.2, fun j hj => HNO.out j (by omega)⟩)
      have i0 : ¬ ((k + 1 : Nat) : Int) < (z.length : Int) := by omega
      go_wp2_with fail
      go_ret
      exact ⟨ret_bool HXX.out.symm, HQ.out⟩
end Go.Proofs.YtgndekojodpmkaaDoor

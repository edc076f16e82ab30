/- Valid tables: ValidTable of the program. -/
import Derived.Test.YtgndekojodpmkaaDoorVt0
import Derived.Test.YtgndekojodpmkaaDoorCls
import Derived.Deep.RegionHeld3
namespace Go.Proofs.YtgndekojodpmkaaDoor
open Go.RowKit Go.Deep
set_option linter.unusedVariables false

set_option maxRecDepth 100000 in
set_option maxHeartbeats 4000000 in
theorem implVt_any (h : Int) (ao : Option Addr) (yo : List Int) (co : Nat) (a : Option Addr) (z : List (List Int)) (c : Nat) (w : World) (hr : InT w ao yo a z) (hl : LenT yo z) :
    Calls Tryd.prog 38 #[.agg #[.int .i64 h, .slice ao yo.length co, .slice a z.length c]] w fun e w' => e = .returned (.bool (tell (TabOk h yo z))) ∧ Below w.heap.size w w' := by
  have hlo : yo.length ≤ 9223372036854775807 := hl.o
  have hlz : z.length ≤ 9223372036854775807 := hl.r.n
  have HL := Lib.hid hl
  have hb1 := (Below.refl w.heap.size w).alloc (Nat.le_refl _) (.cells #[.int .i64 h, .slice ao yo.length co, .slice a z.length c] 30)
  have HX := Lib.hid (show Boxes (w.alloc (.cells #[.int .i64 h, .slice ao yo.length co, .slice a z.length c] 30)) w.heap.size 30 #[.int .i64 h, .slice ao yo.length co, .slice a z.length c] from World.alloc_heap_new w _)
  have HB1 := Lib.hid hb1
  have HR := Lib.hid (hr.step hb1)
  clear hl hr
  go_enter Tryd.func38, Tryd.ntmps38
  go_wp2_with fail
  refine (isHead_any h ao yo co _ HR.out.o hlo).mono ?_
  generalize w.alloc (.cells #[.int .i64 h, .slice ao yo.length co, .slice a z.length c] 30) = w1 at *
  rintro e w1' ⟨rfl, rfl⟩
  have d0 := HX.out.m0
  have d1 := HX.out.m1
  have d2 := HX.out.m2
  have hxl := HX.out.lt
  clear hb1
  by_cases hm : HeadOk h yo
  case neg =>
    have HT := Lib.hid (tell_false hm)
    have HN := Lib.hid (tell_false (p := TabOk h yo z) (fun q => hm q.1))
    clear hm
    rw [HT.out]
    go_wp2_with fail
    go_ret
    exact ⟨ret_bool HN.out.symm, HB1.out⟩
  have HT := Lib.hid (tell_true hm)
  have HM := Lib.hid hm
  clear hm
  rw [HT.out]
  by_cases h1 : (z.length : Int) < 1
  · have HN := Lib.hid (tell_false (p := TabOk h yo z) (fun q => by have := q.2.1.1; omega))
    go_wp2_with fail
    go_ret
    exact ⟨ret_bool HN.out.symm, HB1.out⟩
  by_cases h2 : 700 < (z.length : Int)
  · have HN := Lib.hid (tell_false (p := TabOk h yo z) (fun q => by have := q.2.1.2; omega))
    go_wp2_with fail
    go_ret
    exact ⟨ret_bool HN.out.symm, HB1.out⟩
  go_wp2_with fail
  go_loopw [3, 4, 26] (fun _ _ i wr => ∃ k : Nat, i = .int .i64 k ∧ k ≤ z.length ∧ Below w1.heap.size w1 wr ∧ (∀ j, j < k → CaseOk h yo (sec z j) (shs z j)) ∧ ∀ j, j + 1 < k → ¬ Before (nthL z (j + 1)) (nthL z j))
    (fun _ _ i _ => z.length - (intOf i).toNat)
  case atStart => exact ⟨0, rfl, Nat.zero_le _, Below.refl _ _, fun j hj => absurd hj (Nat.not_lt_zero _), fun j hj => absurd hj (Nat.not_lt_zero _)⟩
  case round =>
    obtain ⟨k, rfl, hk, hb, hno, hbf⟩ := hrel
    have HNO := Lib.hid (And.intro hno hbf)
    have HB := Lib.hid hb
    have hsz := hb.size
    have hx := HX.out.step hb
    have f0 := hx.m0
    have f1 := hx.m1
    have f2 := hx.m2
    have hxw := hx.lt
    clear hno hbf hb hx d0 d1 d2
    by_cases hlt : k < z.length
    · rcases HR.out.r.step HB.out with hh | ⟨b, o, rfl, hc⟩
      · rw [hh] at hlt; exact absurd hlt (Nat.not_lt_zero _)
      obtain ⟨ai, ci, g0, g1, hi1⟩ := hc k hlt
      have i0 : (k : Int) < (z.length : Int) := by omega
      have HC := Lib.hid hc
      have hls := HL.out.r.r k hlt
      have HI := Lib.hid hi1
      have HO := Lib.hid (HR.out.o.step HB.out)
      have E1 := Lib.hid (row_split (HL.out.full k hlt))
      clear hc hi1
      obtain ⟨s, hs⟩ : ∃ s, sec z k = s := ⟨_, rfl⟩
      obtain ⟨sh, hsh⟩ : ∃ s, shs z k = s := ⟨_, rfl⟩
      rw [hs] at g0 E1
      rw [hsh] at g1 hls HI E1
      have HSS := Lib.hid (And.intro hs hsh)
      clear hs hsh
      go_wp2_with fail
      have ha := World.alloc_heap_new wr (.cells #[.int .i64 s, .slice ai sh.length ci] 71)
      have hb2 := (Below.refl wr.heap.size wr).alloc (Nat.le_refl _) (.cells #[.int .i64 s, .slice ai sh.length ci] 71)
      generalize wr.alloc (.cells #[.int .i64 s, .slice ai sh.length ci] 71) = w2 at *
      have ha2 : Boxes w2 wr.heap.size 71 #[.int .i64 s, .slice ai sh.length ci] := ha
      have k0 := cell_step hb2 f0
      have k1 := cell_step hb2 f1
      have k2 := cell_step hb2 f2
      have k3 := ha2.c0
      have k4 := ha2.c1
      have HO2 := Lib.hid (HO.out.step hb2)
      have HI2 := Lib.hid (HI.out.step hb2)
      have HB2 := Lib.hid (chain HB.out hb2)
      have HK := Lib.hid hb2
      clear ha ha2 hb2 f0 f1 f2 g0 g1
      by_cases hcs : CaseOk h yo s sh
      case neg =>
        have TT := Lib.hid (tell_false hcs)
        have HN := Lib.hid (tell_false (p := TabOk h yo z) (fun q => hcs (by have := q.2.2.1 k hlt; rw [HSS.out.1, HSS.out.2] at this; exact this)))
        clear hcs
        obtain ⟨f, hf, hg⟩ := class_of w2
        have HS := Lib.hid hf
        have HM := Lib.hid hg
        have p0 : ∀ t, (f t).cell? ⟨w.heap.size, 0, none⟩ = some (.int .i64 h) := fun t => cell_step (hf t) k0
        have p1 : ∀ t, (f t).cell? ⟨w.heap.size, 1, none⟩ = some (.slice ao yo.length co) := fun t => cell_step (hf t) k1
        have p2 : ∀ t, (f t).cell? ⟨w.heap.size, 2, none⟩ = some (.slice (some ⟨b, o, none⟩) z.length c) := fun t => cell_step (hf t) k2
        have p3 : ∀ t, (f t).cell? ⟨wr.heap.size, 0, none⟩ = some (.int .i64 s) := fun t => cell_step (hf t) k3
        have p4 : ∀ t, (f t).cell? ⟨wr.heap.size, 1, none⟩ = some (.slice ai sh.length ci) := fun t => cell_step (hf t) k4
        skip
        skip
        clear hf hg
        refine region_class (fun w' => ∃ t, w' = f t) (by kernel_rfl) (by kernel_rfl) (HM.out _ (drew_step _)) ?_
        repeat (first | go_big_quiet_skip | (go_big_quiet_want; go_big_quiet_op; first | go_big_quiet_on | go_big_quiet_call ((go_at_call 75; refine (isCase_any h ao yo co (some ⟨b, o, none⟩) z.length c s ai sh ci _ (HO2.out.step (HS.out _)) (HI2.out.step (HS.out _)) hlo hls).mono ?_; rw [TT.out]; rintro e wf ⟨rfl, hb⟩; exact ⟨rfl, HM.out _ (chain (HS.out _) hb)⟩))))
        refine wpQuiet_nil ?_
        intro wq hwq
        obtain ⟨t, rfl⟩ := hwq
        have KF := Lib.hid (chain HB2.out (HS.out t))
        generalize f t = wq at *
        go_wp2
        go_ret
        exact ⟨ret_bool HN.out.symm, chain HB1.out KF.out⟩
      have TT := Lib.hid (tell_true hcs)
      have HCS := Lib.hid (show CaseOk h yo (sec z k) (shs z k) by rw [HSS.out.1, HSS.out.2]; exact hcs)
      clear hcs
      cases k with
      | zero =>
        have j0 : decide ((0 : Int) < ((0 : Nat) : Int)) = false := by decide
        obtain ⟨f, hf, hg⟩ := class_of w2
        have HS := Lib.hid hf
        have HM := Lib.hid hg
        have p0 : ∀ t, (f t).cell? ⟨w.heap.size, 0, none⟩ = some (.int .i64 h) := fun t => cell_step (hf t) k0
        have p1 : ∀ t, (f t).cell? ⟨w.heap.size, 1, none⟩ = some (.slice ao yo.length co) := fun t => cell_step (hf t) k1
        have p2 : ∀ t, (f t).cell? ⟨w.heap.size, 2, none⟩ = some (.slice (some ⟨b, o, none⟩) z.length c) := fun t => cell_step (hf t) k2
        have p3 : ∀ t, (f t).cell? ⟨wr.heap.size, 0, none⟩ = some (.int .i64 s) := fun t => cell_step (hf t) k3
        have p4 : ∀ t, (f t).cell? ⟨wr.heap.size, 1, none⟩ = some (.slice ai sh.length ci) := fun t => cell_step (hf t) k4
        skip
        skip
        clear hf hg
        refine region_class (fun w' => ∃ t, w' = f t) (by kernel_rfl) (by kernel_rfl) (HM.out _ (drew_step _)) ?_
        repeat (first | go_big_quiet_skip | (go_big_quiet_want; go_big_quiet_op; first | go_big_quiet_on | go_big_quiet_call ((go_at_call 75; refine (isCase_any h ao yo co (some ⟨b, o, none⟩) z.length c s ai sh ci _ (HO2.out.step (HS.out _)) (HI2.out.step (HS.out _)) hlo hls).mono ?_; rw [TT.out]; rintro e wf ⟨rfl, hb⟩; exact ⟨rfl, HM.out _ (chain (HS.out _) hb)⟩))))
        refine wpQuiet_nil ?_
        intro wq hwq
        obtain ⟨t, rfl⟩ := hwq
        have KF := Lib.hid (chain HB2.out (HS.out t))
        generalize f t = wq at *
        go_wp2
        go_roundw
        case rel => exact ⟨1, by go_num, by omega, KF.out, fun j hj => by rw [show j = 0 by omega]; exact HCS.out, fun j hj => absurd hj (by omega)⟩
        case measure => simp [intOf]; omega
      | succ m =>
        obtain ⟨bi, di, g2, g3, hi2⟩ := HC.out m (by omega)
        have hlt2 := HL.out.r.r m (by omega)
        have E2 := Lib.hid (row_split (HL.out.full m (by omega)))
        have HJ2 := Lib.hid (hi2.step HK.out)
        have k5 := cell_step HK.out g2
        have k6 := cell_step HK.out g3
        generalize sec z m = t0 at k5 E2
        generalize shs z m = th at k6 hlt2 E2 HJ2
        have w1 : ((m + 1 : Nat) : Int) - 1 = (m : Int) := by omega
        have w3 : ((m : Int) + 1) - 1 = (m : Int) := by omega
        have i1 : (m : Int) < (z.length : Int) := by omega
        have j0 : (0 : Int) < (m : Int) + 1 := by omega
        clear g2 g3 hi2
        obtain ⟨q, hq⟩ : ∃ q, lexCmp (t0 :: th) (s :: sh) = q := ⟨_, rfl⟩
        have TC := Lib.hid hq
        clear hq
        by_cases hgt : 0 < q
        · have HN := Lib.hid (tell_false (p := TabOk h yo z) (fun qq => qq.2.2.2 m hlt (by unfold Before; rw [E1.out, E2.out, lex_flip, TC.out]; omega)))
          obtain ⟨f, hf, hg⟩ := class_of w2
          have HS := Lib.hid hf
          have HM := Lib.hid hg
          have p0 : ∀ t, (f t).cell? ⟨w.heap.size, 0, none⟩ = some (.int .i64 h) := fun t => cell_step (hf t) k0
          have p1 : ∀ t, (f t).cell? ⟨w.heap.size, 1, none⟩ = some (.slice ao yo.length co) := fun t => cell_step (hf t) k1
          have p2 : ∀ t, (f t).cell? ⟨w.heap.size, 2, none⟩ = some (.slice (some ⟨b, o, none⟩) z.length c) := fun t => cell_step (hf t) k2
          have p3 : ∀ t, (f t).cell? ⟨wr.heap.size, 0, none⟩ = some (.int .i64 s) := fun t => cell_step (hf t) k3
          have p4 : ∀ t, (f t).cell? ⟨wr.heap.size, 1, none⟩ = some (.slice ai sh.length ci) := fun t => cell_step (hf t) k4
          have p5 : ∀ t, (f t).cell? ⟨b, o + m * 2, none⟩ = some (.int .i64 t0) := fun t => cell_step (hf t) k5
          have p6 : ∀ t, (f t).cell? ⟨b, o + m * 2 + 1, none⟩ = some (.slice bi th.length di) := fun t => cell_step (hf t) k6
          clear hf hg
          refine region_class (fun w' => ∃ t, w' = f t) (by kernel_rfl) (by kernel_rfl) (HM.out _ (drew_step _)) ?_
          repeat (first | go_big_quiet_skip | (go_big_quiet_want; go_big_quiet_op; first | go_big_quiet_on | go_big_quiet_call (first | (go_at_call 75; refine (isCase_any h ao yo co (some ⟨b, o, none⟩) z.length c s ai sh ci _ (HO2.out.step (HS.out _)) (HI2.out.step (HS.out _)) hlo hls).mono ?_; rw [TT.out]; rintro e wf ⟨rfl, hb⟩; exact ⟨rfl, HM.out _ (chain (HS.out _) hb)⟩) | (go_at_call 76; refine (compareRows_any t0 s bi ai th sh di ci _ (HJ2.out.step (HS.out _)) (HI2.out.step (HS.out _)) hlt2 hls).mono ?_; rw [TC.out]; rintro e wf ⟨rfl, hb⟩; exact ⟨rfl, HM.out _ (chain (HS.out _) hb)⟩))))
          refine wpQuiet_nil ?_
          intro wq hwq
          obtain ⟨t, rfl⟩ := hwq
          have KF := Lib.hid (chain HB2.out (HS.out t))
          generalize f t = wq at *
          go_wp2
          go_ret
          exact ⟨ret_bool HN.out.symm, chain HB1.out KF.out⟩
        · have HBF := Lib.hid (show ¬ Before (nthL z (m + 1)) (nthL z m) by unfold Before; rw [E1.out, E2.out, lex_flip, TC.out]; omega)
          obtain ⟨f, hf, hg⟩ := class_of w2
          have HS := Lib.hid hf
          have HM := Lib.hid hg
          have p0 : ∀ t, (f t).cell? ⟨w.heap.size, 0, none⟩ = some (.int .i64 h) := fun t => cell_step (hf t) k0
          have p1 : ∀ t, (f t).cell? ⟨w.heap.size, 1, none⟩ = some (.slice ao yo.length co) := fun t => cell_step (hf t) k1
          have p2 : ∀ t, (f t).cell? ⟨w.heap.size, 2, none⟩ = some (.slice (some ⟨b, o, none⟩) z.length c) := fun t => cell_step (hf t) k2
          have p3 : ∀ t, (f t).cell? ⟨wr.heap.size, 0, none⟩ = some (.int .i64 s) := fun t => cell_step (hf t) k3
          have p4 : ∀ t, (f t).cell? ⟨wr.heap.size, 1, none⟩ = some (.slice ai sh.length ci) := fun t => cell_step (hf t) k4
          have p5 : ∀ t, (f t).cell? ⟨b, o + m * 2, none⟩ = some (.int .i64 t0) := fun t => cell_step (hf t) k5
          have p6 : ∀ t, (f t).cell? ⟨b, o + m * 2 + 1, none⟩ = some (.slice bi th.length di) := fun t => cell_step (hf t) k6
          clear hf hg
          refine region_class (fun w' => ∃ t, w' = f t) (by kernel_rfl) (by kernel_rfl) (HM.out _ (drew_step _)) ?_
          repeat (first | go_big_quiet_skip | (go_big_quiet_want; go_big_quiet_op; first | go_big_quiet_on | go_big_quiet_call (first | (go_at_call 75; refine (isCase_any h ao yo co (some ⟨b, o, none⟩) z.length c s ai sh ci _ (HO2.out.step (HS.out _)) (HI2.out.step (HS.out _)) hlo hls).mono ?_; rw [TT.out]; rintro e wf ⟨rfl, hb⟩; exact ⟨rfl, HM.out _ (chain (HS.out _) hb)⟩) | (go_at_call 76; refine (compareRows_any t0 s bi ai th sh di ci _ (HJ2.out.step (HS.out _)) (HI2.out.step (HS.out _)) hlt2 hls).mono ?_; rw [TC.out]; rintro e wf ⟨rfl, hb⟩; exact ⟨rfl, HM.out _ (chain (HS.out _) hb)⟩))))
          refine wpQuiet_nil ?_
          intro wq hwq
          obtain ⟨t, rfl⟩ := hwq
          have KF := Lib.hid (chain HB2.out (HS.out t))
          generalize f t = wq at *
          go_wp2
          go_roundw
          case rel => exact ⟨m + 2, by go_num, by omega, KF.out, fun j hj => by
            by_cases e : j = m + 1
            · rw [e]; exact HCS.out
            · exact HNO.out.1 j (by omega), fun j hj => by
            by_cases e : j = m
            · rw [e]; exact HBF.out
            · exact HNO.out.2 j (by omega)⟩
          case measure => simp [intOf]; omega
    · have HXX := Lib.hid (tell_true (p := TabOk h yo z) ⟨HM.out, ⟨by omega, by omega⟩, fun j hj => HNO.out.1 j (by omega), fun j hj => HNO.out.2 j (by omega)⟩)
      have i0 : ¬ (k : Int) < (z.length : Int) := by omega
      go_wp2_with fail
      go_ret
      exact ⟨ret_bool HXX.out.symm, chain HB1.out HB.out⟩
end Go.Proofs.YtgndekojodpmkaaDoor

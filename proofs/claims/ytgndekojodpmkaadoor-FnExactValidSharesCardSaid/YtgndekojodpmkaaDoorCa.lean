/- CurveAt, both. -/
import Derived.Test.YtgndekojodpmkaaDoorAt
import Derived.Test.YtgndekojodpmkaaDoorScM
namespace Go.Proofs.YtgndekojodpmkaaDoor
open Go.RowKit Go.Deep
set_option linter.unusedVariables false

noncomputable def caVal (p : Int) (zs : List Int) (x : Int) : Int := if scCode p zs x = 0 then hor p x zs.reverse else 0

theorem run_field_elt2 (p v : Int) (w : World) : Sem.run Tryd.prog (Instr.field 82 (.agg #[.int .i64 p, .int .i64 v]) 1) w = .ok (.int .i64 v) w := by
  simp [Instr.field, asAgg, go_sem]

set_option maxRecDepth 100000 in
set_option maxHeartbeats 1000000 in
theorem implCa_any (p f : Int) (a : Option Addr) (zs : List Int) (c : Nat) (ai ar az : Addr) (w : World) (hg : Glob w ai ar az) (h : Ints w a zs) (hl : zs.length ≤ 1048576) :
    Calls Tryd.prog 16 #[.int .i64 p, .slice a zs.length c, .int .i64 f] w fun e w' => e = .returned (.tuple #[.int .i64 (caVal p zs f), .int .i64 (scCode p zs f)]) ∧ Below w.heap.size w w' := by
  have hb1 := (Below.refl w.heap.size w).alloc (Nat.le_refl _) (.cells #[.slice a zs.length c] 22)
  have HR1 := Lib.hid (rows2_one w a zs c h)
  have HG1 := Lib.hid (hg.step hb1)
  have HI1 := Lib.hid (h.step hb1)
  have HB1 := Lib.hid hb1
  have HS1 := Lib.hid (show (w.alloc (.cells #[.slice a zs.length c] 22)).heap.size = w.heap.size + 1 by simp)
  clear hg h hb1
  obtain ⟨r, hr⟩ : ∃ r, scCode p zs f = r := ⟨_, rfl⟩
  obtain ⟨ys, hys⟩ : ∃ ys, caVal p zs f = ys := ⟨_, rfl⟩
  rw [hys, hr]
  have HCD := Lib.hid hr
  by_cases h0 : r = 0
  · subst h0
    have hok : CurveOk p zs ∧ Elem p f := by
      unfold scCode at hr
      by_cases h1 : CurveOk p zs
      · by_cases h2 : Elem p f
        · exact ⟨h1, h2⟩
        · rw [tell_true h1, tell_false h2] at hr; simp at hr
      · rw [tell_false h1] at hr; simp at hr
    have hzz : hor p f zs.reverse = ys := by rw [← hys, caVal, if_pos hr]
    have HOK := Lib.hid hok
    have HZ := Lib.hid hzz
    clear hok hzz hr hys
    go_enter Tryd.func16, Tryd.ntmps16
    go_wp2_with fail
    refine (checkCurves_any p (some ⟨w.heap.size, 0, none⟩) [zs] 1 ai _ HR1.out (by simp) (by intro r hr; obtain rfl : r = 0 := (by simp at hr; omega); show zs.length ≤ _; omega) HG1.out.two.i).mono ?_
    rintro e w1 ⟨rfl, rfl⟩
    generalize w.alloc (.cells #[.slice a zs.length c] 22) = w1 at *
    clear HR1
    go_wp2_with fail
    have hb2 := (Below.refl w1.heap.size w1).alloc (Nat.le_refl _) (.cells #[.int .i64 f] 2)
    refine (checkResidues_any p (some ⟨w1.heap.size, 0, none⟩) [f] 1 ai ar _ (ints_one w1 f) (by simp) (HG1.out.step hb2).two.i (HG1.out.step hb2).r).mono ?_
    rintro e w3 ⟨rfl, hq⟩
    have hb3 := hb2.trans ((quiet_below hq).mono (by simp))
    have HG3 := Lib.hid (HG1.out.step hb3)
    have HI3 := Lib.hid (HI1.out.step hb3)
    have HB3 := Lib.hid (HB1.out.trans (hb3.mono HB1.out.size))
    clear hb2 hb3 hq HG1 HI1 HB1
    have hcd := codes_sc HG3.out p zs f
    rw [curE_yes ai (allOk_one.2 HOK.out.1), resE_yes ai ar HOK.out.1.1 (elems_one.2 HOK.out.2), HCD.out] at hcd
    rw [curE_yes ai (allOk_one.2 HOK.out.1), resE_yes ai ar HOK.out.1.1 (elems_one.2 HOK.out.2)]
    have hb4 := (Below.refl w3.heap.size w3).alloc (Nat.le_refl _) (.cells #[.nilIface, .nilIface] 65)
    have HV := Lib.hid (errs_two w3 none none)
    simp only [errV] at HV ⊢
    have HCI := Lib.hid (hcd.step hb4)
    have HI4 := Lib.hid (HI3.out.step hb4)
    have HB4 := Lib.hid (HB3.out.trans (hb4.mono HB3.out.size))
    have HG4 := Lib.hid (HG3.out.step hb4)
    clear hcd hb4 HG3 HI3 HB3
    go_wp2_with fail
    refine (codeOf_any w3.heap.size [none, none] 2 2 0 _ rfl (by omega) HV.out HCI.out).mono ?_
    rintro e w5 ⟨rfl, hb5⟩
    have HI5 := Lib.hid (HI4.out.step hb5)
    have HB5 := Lib.hid (HB4.out.trans (hb5.mono HB4.out.size))
    clear hb5 HV HCI HI4 HB4 HG4
    go_wp2_with fail
    refine (curve_any p a zs c _ HI5.out hl).mono ?_
    rintro e w6 ⟨⟨v6, rfl, ho6⟩, hb6⟩
    obtain ⟨a6, c6, rfl, hN6⟩ := ho6.nums
    have HB6 := Lib.hid (HB5.out.trans (hb6.mono HB5.out.size))
    have HN6 := Lib.hid hN6
    clear ho6 hb6 hN6 HI5 HB5
    go_wp2_with fail
    refine (number_any p f _).mono ?_
    rintro e w7 ⟨rfl, hb7⟩
    have HB7 := Lib.hid (HB6.out.trans (hb7.mono HB6.out.size))
    have HN7 := Lib.hid (HN6.out.step hb7)
    clear hb7 HN6 HB6
    go_wp2_with fail
    refine (cat_any p f a6 zs c6 _ HN7.out (by have := HOK.out.1.2.1; omega) HOK.out.1.1.1 HOK.out.1.1.2.1 HOK.out.2 HOK.out.1.2.2.1).mono ?_
    rintro e w8 ⟨rfl, hb8⟩
    rw [HZ.out]
    have hfl := run_field_elt2 p ys
    have HB8 := Lib.hid (HB7.out.trans (hb8.mono HB7.out.size))
    clear hb8 HB7
    go_wp2_with fail
    refine bodyPost_ret (v := .tuple #[.int .i64 ys, .int .i64 0]) (by simp [results, Tryd.results16, go_sem]) rfl ?_
    exact ⟨rfl, HB8.out⟩
  · have hzz : ys = 0 := by rw [← hys, caVal, if_neg (by rw [hr]; exact h0)]
    subst hzz
    have t0 : (r != 0) = true := by simp [h0]
    clear hr hys h0
    go_enter Tryd.func16, Tryd.ntmps16
    go_wp2_with fail
    refine (checkCurves_any p (some ⟨w.heap.size, 0, none⟩) [zs] 1 ai _ HR1.out (by simp) (by intro r hr; obtain rfl : r = 0 := (by simp at hr; omega); show zs.length ≤ _; omega) HG1.out.two.i).mono ?_
    rintro e w1 ⟨rfl, rfl⟩
    generalize w.alloc (.cells #[.slice a zs.length c] 22) = w1 at *
    clear HR1
    go_wp2_with fail
    have hb2 := (Below.refl w1.heap.size w1).alloc (Nat.le_refl _) (.cells #[.int .i64 f] 2)
    refine (checkResidues_any p (some ⟨w1.heap.size, 0, none⟩) [f] 1 ai ar _ (ints_one w1 f) (by simp) (HG1.out.step hb2).two.i (HG1.out.step hb2).r).mono ?_
    rintro e w3 ⟨rfl, hq⟩
    have hb3 := hb2.trans ((quiet_below hq).mono (by simp))
    have HG3 := Lib.hid (HG1.out.step hb3)
    have HB3 := Lib.hid (HB1.out.trans (hb3.mono HB1.out.size))
    clear hb2 hb3 hq HG1 HI1 HB1
    obtain ⟨x1, hx1⟩ : ∃ x1, curE ai p [zs] = x1 := ⟨_, rfl⟩
    obtain ⟨x2, hx2⟩ : ∃ x2, resE ai ar p [f] = x2 := ⟨_, rfl⟩
    have hcd := codes_sc HG3.out p zs f
    rw [hx1, hx2, HCD.out] at hcd
    rw [hx1, hx2]
    clear hx1 hx2
    have hb4 := (Below.refl w3.heap.size w3).alloc (Nat.le_refl _) (.cells #[errV x1, errV x2] 65)
    have HV := Lib.hid (errs_two w3 x1 x2)
    have HCI := Lib.hid (hcd.step hb4)
    have HB4 := Lib.hid (HB3.out.trans (hb4.mono HB3.out.size))
    clear hcd hb4 HG3 HB3
    rcases x1 with _ | a1 <;> rcases x2 with _ | a2 <;> simp only [errV] at HV HCI HB4 ⊢
    all_goals (
      go_wp2_with fail
      refine (codeOf_any w3.heap.size [_, _] 2 2 r _ rfl (by omega) HV.out HCI.out).mono ?_
      rintro e w5 ⟨rfl, hb5⟩
      have HB5 := Lib.hid (HB4.out.trans (hb5.mono HB4.out.size))
      clear hb5 HV HCI HB4
      go_wp2_with fail
      refine bodyPost_ret (v := .tuple #[.int .i64 0, .int .i64 r]) (by simp [results, Tryd.results16, go_sem]) rfl ?_
      exact ⟨rfl, HB5.out⟩)

set_option maxRecDepth 100000 in
set_option maxHeartbeats 400000 in
theorem l05Value_any (p x : Int) (a : Option Addr) (zs : List Int) (c : Nat) (w : World) (h : Ints w a zs) (hl : zs.length ≤ 1000) (hp : 2 ≤ p) (hp1 : p ≤ 31) (hx : Elem p x) (he : Elems p zs) :
    Calls Tryd.prog 46 #[.int .i64 p, .slice a zs.length c, .int .i64 x] w fun e w' => e = .returned (.int .i64 (hor p x zs.reverse)) ∧ w = w' := by
  have hp0 : p ≠ 0 := by omega
  go_enter Tryd.func46, Tryd.ntmps46
  go_wp2
  go_loop [7, 8] (fun v i => ∃ (q : Int) (k : Nat), q + 1 + k = zs.length ∧ -1 ≤ q ∧ i = .int .i64 q ∧ v = .int .i64 (hor p x (zs.reverse.take k)))
    (fun _ i => (intOf i + 1).toNat)
  case atStart => exact ⟨(zs.length : Int) - 1, 0, by omega, by omega, rfl, rfl⟩
  case round =>
    obtain ⟨q, k, hqk, hq1, rfl, rfl⟩ := hrel
    by_cases hq : q = -1
    · subst hq
      have HE := Lib.hid (show zs.reverse.take k = zs.reverse from List.take_of_length_le (by rw [List.length_reverse]; omega))
      go_wp2
      go_ret
      exact ⟨by rw [HE.out]; rfl, rfl⟩
    · obtain ⟨j, rfl⟩ : ∃ j : Nat, q = j := ⟨q.toNat, by omega⟩
      have hkl : k < zs.length := by omega
      have h0j : (0 : Int) ≤ (j : Int) := by omega
      have hjl : (j : Int) < (zs.length : Int) := by omega
      rcases h with h | ⟨b, o, rfl, hcc⟩
      · rw [h] at hkl; exact absurd hkl (Nat.not_lt_zero _)
      have hcell := hcc j (by omega)
      have HT := Lib.hid (show hor p x (zs.reverse.take (k + 1)) = (hor p x (zs.reverse.take k) * x + nth zs j) % p by
        rw [List.take_succ_eq_append_getElem (by rw [List.length_reverse]; exact hkl), hor_snoc, List.getElem_reverse, nth_lt (show j < zs.length by omega)]
        simp only [show zs.length - 1 - k = j by omega])
      obtain ⟨m0, m1⟩ := mul_bounds hp1 (hor_elem hp x (zs.reverse.take k)) hx
      obtain ⟨y0, y1⟩ := he j (by omega)
      generalize hor p x (zs.reverse.take k) = v at *
      generalize nth zs j = y at *
      clear hcc
      go_wp2
      go_round
      case rel => exact ⟨(j : Int) - 1, k + 1, by omega, by omega, by first | rfl | simp, by rw [HT.out]⟩
      case measure => first | (simp [intOf]; done) | (simp [intOf]; omega)

set_option maxRecDepth 100000 in
set_option maxHeartbeats 1000000 in
theorem specCa_any (p f : Int) (a : Option Addr) (zs : List Int) (c : Nat) (w : World) (h : Ints w a zs) (hl : zs.length ≤ 1048576) (hp0 : (Lit.int .i64 p).wf = true) :
    Calls Tryd.prog 14 #[.int .i64 p, .slice a zs.length c, .int .i64 f] w fun e w' => e = .returned (.tuple #[.int .i64 (caVal p zs f), .int .i64 (scCode p zs f)]) ∧ Below w.heap.size w w' := by
  have HI := Lib.hid h
  clear h
  by_cases h1 : CurveOk p zs
  case neg =>
    have HT := Lib.hid (tell_false h1)
    have hc : scCode p zs f = 1 := by unfold scCode; rw [tell_false h1]; rfl
    have hz : caVal p zs f = 0 := by unfold caVal; rw [if_neg (by rw [hc]; omega)]
    rw [hc, hz]
    clear h1 hc hz
    go_enter Tryd.func14, Tryd.ntmps14
    go_wp2_with fail
    refine (specVc_any p a zs c _ HI.out (by omega)).mono ?_
    rintro e w1 ⟨rfl, rfl⟩
    rw [HT.out]
    go_wp2_with fail
    refine bodyPost_ret (v := .tuple #[.int .i64 0, .int .i64 1]) (by simp [results, Tryd.results14, go_sem]) rfl ?_
    exact ⟨rfl, Below.refl _ _⟩
  have HT := Lib.hid (tell_true h1)
  have HP := Lib.hid h1
  have hp2 := h1.1.1
  have hp31 := h1.1.2.1
  by_cases h2 : Elem p f
  case neg =>
    have hc : scCode p zs f = 2 := by unfold scCode; rw [tell_true h1, tell_false h2]; rfl
    have hz : caVal p zs f = 0 := by unfold caVal; rw [if_neg (by rw [hc]; omega)]
    rw [hc, hz]
    have t1 := Lib.hid (show (decide (0 ≤ f) && decide (f ≤ p - 1)) = false by unfold Elem at h2; by_cases q1 : 0 ≤ f <;> by_cases q2 : f ≤ p - 1 <;> simp [q1, q2] <;> omega)
    clear h1 hc hz h2
    go_enter Tryd.func14, Tryd.ntmps14
    go_wp2_with fail
    refine (specVc_any p a zs c _ HI.out (by omega)).mono ?_
    rintro e w1 ⟨rfl, rfl⟩
    rw [HT.out]
    go_wp2_with fail
    refine (l00In_val _ 0 _ false _ t1.out).mono ?_
    rintro e w1 ⟨rfl, rfl⟩
    go_wp2_with fail
    refine bodyPost_ret (v := .tuple #[.int .i64 0, .int .i64 2]) (by simp [results, Tryd.results14, go_sem]) rfl ?_
    exact ⟨rfl, Below.refl _ _⟩
  have hc : scCode p zs f = 0 := by unfold scCode; rw [tell_true h1, tell_true h2]; rfl
  have hz : caVal p zs f = hor p f zs.reverse := by unfold caVal; rw [if_pos hc]
  rw [hc, hz]
  have t1 := Lib.hid (show (decide (0 ≤ f) && decide (f ≤ p - 1)) = true by have := h2.1; have := h2.2; simp; omega)
  have HE := Lib.hid h2
  clear h1 hc hz h2
  go_enter Tryd.func14, Tryd.ntmps14
  go_wp2_with fail
  refine (specVc_any p a zs c _ HI.out (by omega)).mono ?_
  rintro e w1 ⟨rfl, rfl⟩
  rw [HT.out]
  go_wp2_with fail
  refine (l00In_val _ 0 _ true _ t1.out).mono ?_
  rintro e w1 ⟨rfl, rfl⟩
  go_wp2_with fail
  refine (l05Value_any p f a zs c _ HI.out (by have := HP.out.2.1; omega) hp2 hp31 HE.out HP.out.2.2.1).mono ?_
  rintro e w2 ⟨rfl, rfl⟩
  go_wp2_with fail
  refine bodyPost_ret (v := .tuple #[.int .i64 (hor p f zs.reverse), .int .i64 0]) (by simp [results, Tryd.results14, go_sem]) rfl ?_
  exact ⟨rfl, Below.refl _ _⟩
end Go.Proofs.YtgndekojodpmkaaDoor

/- l03Kernel and KernelOf of the model. -/
import Derived.Test.YtekhjoenejgmaaaKe0
import Derived.Test.YtekhjoenejgmaaaSl
import Derived.Test.YtekhjoenejgmaaaGk
import Derived.BigRegion
namespace Go.Proofs.Ytekhjoenejgmaaa
open Go.RowKit Go.Deep Go.Joins
set_option linter.unusedVariables false

theorem hasIn_colI (F : List Nat) (k : Nat) : HasIn (colI F) (k : Int) ↔ k ∈ F := by
  constructor
  · rintro ⟨i, hi, h⟩
    rw [colI_len] at hi
    rw [colI_nth hi] at h
    have : nthN F i = k := by omega
    rw [← this]
    exact nthN_mem hi
  · intro h
    obtain ⟨i, hi, rfl⟩ := List.getElem_of_mem h
    exact ⟨i, by rw [colI_len]; exact hi, by rw [colI_nth hi, nthN_lt hi]⟩

theorem ech_elems {p : Int} {n : Nat} {z : List (List Int)} (hg : GoodM p n z) (i : Nat) (hi : i < (echF p n z).length) (j : Nat) (hj : j < n) : Elem p (nth (nthL (echZ p n z) i) j) := by
  unfold echZ
  rw [tab_at _ _ _ hi hj]
  by_cases hx : ∃ x : (Nat → Nat → Int) × List Nat, Steps p n z.length (fn z) n x.1 x.2
  · obtain ⟨x, hx⟩ := hx
    have h := ech_elem hg hx
    exact h.2.2.2 i (by omega) j hj
  · exfalso
    unfold echF redOf at hi
    rw [dif_neg hx] at hi
    simp at hi

set_option maxRecDepth 100000 in
set_option maxHeartbeats 8000000 in
theorem l03Kernel_any (q0 n ca : Nat) (p : Int) (a : Option Addr) (z : List (List Int)) (w : World) (hbx : Boxes w q0 31 #[.int .i64 p, .int .i64 ((n : Nat) : Int), .slice a z.length ca]) (hr : Rows2 w a z) (hg : GoodM p n z) :
    Calls Try.prog 71 #[.pointer (some ⟨q0, 0, none⟩)] w fun e w' => (∃ va vc us, e = .returned (.agg #[.int .i64 p, .int .i64 ((n : Nat) : Int), .slice va (kerZ p n z).length vc]) ∧ Own w' w.heap.size (.slice va (kerZ p n z).length vc) us (kerZ p n z)) ∧ Below w.heap.size w w' := by
  have hn1 := hg.hn
  have hzm := hg.hm
  have hp0 := hg.prm.1
  have hp1 := hg.prm.2.1
  have hpz : p ≠ 0 := by omega
  have HGD := Lib.hid hg
  have HQ := Lib.hid hbx
  have HR := Lib.hid hr
  have hq0 := hbx.lt
  obtain ⟨F, hF⟩ : ∃ F, echF p n z = F := ⟨_, rfl⟩
  have HF := Lib.hid hF
  clear hr hbx hg hF
  go_enter Try.func71, Try.ntmps71
  go_wp2_with fail
  have hb1 := al_b w (.cells #[.int .i64 0, .int .i64 0, .slice none 0 0] 31)
  have HY := Lib.hid (show Boxes (w.alloc (.cells #[.int .i64 0, .int .i64 0, .slice none 0 0] 31)) w.heap.size 31 #[.int .i64 0, .int .i64 0, .slice none 0 0] from World.alloc_heap_new _ _)
  have HQ1 := Lib.hid (HQ.out.step hb1)
  have HR1 := Lib.hid (HR.out.below hb1 (Nat.le_refl _))
  have HB1 := Lib.hid hb1
  have hs1 : (w.alloc (.cells #[.int .i64 0, .int .i64 0, .slice none 0 0] 31)).heap.size = w.heap.size + 1 := by simp
  generalize w.alloc (.cells #[.int .i64 0, .int .i64 0, .slice none 0 0] 31) = w1 at *
  clear hb1 HQ HR
  refine (l03Echelon_any q0 n ca p a z w1 HQ1.out HR1.out HGD.out).mono ?_
  rintro e w2 ⟨⟨ea, ec, fa, fc, us2, f, rfl, hom, hof, hle, htab⟩, hb2⟩
  rw [HF.out] at hof hle htab ⊢
  have HQ2 := Lib.hid (HQ1.out.step hb2)
  have HY2 := Lib.hid (HY.out.step hb2)
  have HB2 := Lib.hid (HB1.out.trans (hb2.mono (by omega)))
  have HOM := Lib.hid hom
  have HOF := Lib.hid hof
  have HTB := Lib.hid htab
  have hs2 : w.heap.size + 1 ≤ w2.heap.size := by have := hb2.size; omega
  have HFB := Lib.hid (show ∀ k, k < F.length → nthN F k < n from fun k hk => echF_lt (p := p) (z := z) _ (by rw [HF.out]; exact nthN_mem hk))
  have HEL := Lib.hid (show ∀ i, i < F.length → ∀ j, j < n → Elem p (f i j) from fun i hi j hj => by
    have h := ech_elems HGD.out i (by rw [HF.out]; exact hi) j hj
    rw [← HTB.out, tab_at _ _ _ hi hj] at h
    exact h)
  clear hom hof htab hb2 HQ1 HR1 HY HB1
  go_upto_region 2 with fail
  have hb3 := al_b w2 (.cells #[.int .i64 p, .int .i64 ((n : Nat) : Int), .slice ea F.length ec] 31)
  have HE3 := Lib.hid (show Boxes (w2.alloc (.cells #[.int .i64 p, .int .i64 ((n : Nat) : Int), .slice ea F.length ec] 31)) w2.heap.size 31 #[.int .i64 p, .int .i64 ((n : Nat) : Int), .slice ea F.length ec] from World.alloc_heap_new w2 _)
  have HQ3 := Lib.hid (HQ2.out.step hb3)
  have HY3 := Lib.hid (HY2.out.step hb3)
  have HB3 := Lib.hid (HB2.out.trans (hb3.mono (by omega)))
  have HOM3 := Lib.hid (HOM.out.step hb3)
  have HOF3 := Lib.hid (HOF.out.step hb3)
  have hs3 : (w2.alloc (.cells #[.int .i64 p, .int .i64 ((n : Nat) : Int), .slice ea F.length ec] 31)).heap.size = w2.heap.size + 1 := by simp
  generalize w2.alloc (.cells #[.int .i64 p, .int .i64 ((n : Nat) : Int), .slice ea F.length ec] 31) = w3 at *
  clear hb3 HQ2 HY2 HB2 HOM HOF
  have x0 := HQ3.out.m0
  have x1 := HQ3.out.m1
  have hq3 := HQ3.out.lt
  have hq2 : q0 < w2.heap.size := by omega
  go_region
  have hb4 := ((Below.refl w3.heap.size w3).alloc (Nat.le_refl _) (.cells #[.int .i64 p, .int .i64 (n : Int), .slice none 0 0] 31)).drew
  have hbo : Boxes (w3.alloc (.cells #[.int .i64 p, .int .i64 (n : Int), .slice none 0 0] 31)).drew (w2.heap.size + 1) 31 #[.int .i64 p, .int .i64 (n : Int), .slice none 0 0] := by
    have : Boxes (w3.alloc (.cells #[.int .i64 p, .int .i64 (n : Int), .slice none 0 0] 31)) w3.heap.size 31 #[.int .i64 p, .int .i64 (n : Int), .slice none 0 0] := World.alloc_heap_new _ _
    rw [hs3] at this
    exact this.step (drew_step _)
  generalize (w3.alloc (.cells #[.int .i64 p, .int .i64 (n : Int), .slice none 0 0] 31)).drew = w4 at *
  have HO := Lib.hid hbo
  have HE4 := Lib.hid (HE3.out.step hb4)
  have HQ4 := Lib.hid (HQ3.out.step hb4)
  have HY4 := Lib.hid (HY3.out.step hb4)
  have HB4 := Lib.hid (HB3.out.trans (hb4.mono (by omega)))
  have HOM4 := Lib.hid (HOM3.out.step hb4)
  have HOF4 := Lib.hid (Ints_of_own (HOF3.out.step hb4))
  have hs4 : w2.heap.size + 2 ≤ w4.heap.size := hbo.lt
  generalize hoo : w2.heap.size + 1 = oo at *
  have HOO := Lib.hid hoo
  have HOMB := Lib.hid (fun (W : World) (hW : Below oo w4 W) => HOM3.out.step (hb4.trans (hW.mono (by omega))))
  have HFIB := Lib.hid (fun (W : World) (hW : Below oo w4 W) => (Ints_of_own HOF3.out).below (hb4.trans (hW.mono (by omega))) (Nat.le_refl _))
  have HLE := Lib.hid hle
  have hfl1 : F.length ≤ 1000 := by omega
  clear hb4 hbo x0 x1 hq3 HE3 HQ3 HY3 HB3 HOM3 HOF3
  obtain ⟨i0, hi, hz0, hz1, hz2⟩ := info_parts Try.infoInt64
  obtain ⟨i1, ji, jz0, jz1, jz2⟩ := info_parts Try.infoInt64S
  have hql : q0 < oo := by omega
  have hmk := run_make_row' (P := Try.prog) 22 2 (.int .i64 0) 8 Try.underlying22 Try.infoInt64 rfl .i64 .i64 n (by omega) (by omega)
  have HMK := Lib.hid hmk
  clear hmk
  go_wp2_with fail
  go_loopw [6, 7, 8] (fun i q7 q8 wr => ∃ (k : Nat) (va : Option Addr) (vc : Nat) (us : List Value), k ≤ n ∧ i = .int .i64 k ∧ Boxes wr oo 31 #[.int .i64 p, .int .i64 (n : Int), .slice va (kerTo p n z k).length vc] ∧ Own wr (oo + 1) (.slice va (kerTo p n z k).length vc) us (kerTo p n z k) ∧ Below oo w4 wr)
    (fun i _ _ _ => n - (intOf i).toNat)
  case atStart => exact ⟨0, none, 0, [], Nat.zero_le _, rfl, HO.out, Own.nil3 _ _, Below.refl _ _⟩
  case round =>
    obtain ⟨k, va, vc, us, hk, rfl, hx, hown, hb⟩ := hrel
    have HXQ := Lib.hid hx
    have HOQ := Lib.hid hown
    have HBL := Lib.hid hb
    have hooq1 : oo + 1 ≤ wr.heap.size := hx.lt
    have b0 := (hb.cell (p := ⟨q0, 0, none⟩) (show q0 < oo by omega)).trans HQ4.out.m0
    have b1 := (hb.cell (p := ⟨q0, 1, none⟩) (show q0 < oo by omega)).trans HQ4.out.m1
    have b2 := (hb.cell (p := ⟨w2.heap.size, 2, none⟩) (show w2.heap.size < oo by omega)).trans HE4.out.m2
    have hqr : q0 < wr.heap.size := by omega
    have hwr : w2.heap.size < wr.heap.size := by omega
    have HBW := Lib.hid (show Below w.heap.size w wr from HB4.out.trans (hb.mono (by omega)))
    have HB4R := Lib.hid hb
    have hklen := kerTo_len (p := p) (n := n) (z := z) k
    clear hx hown hb
    obtain ⟨wo, rfl⟩ : ∃ wo : World, wo = wr := ⟨_, rfl⟩
    by_cases hlt : k < n
    · have hi0 : (k : Int) < (n : Int) := by omega
      have HFI := Lib.hid (HFIB.out wo HBL.out)
      by_cases hin : k ∈ F
      · have HT := Lib.hid (tell_true ((hasIn_colI F k).2 hin))
        have HSK := Lib.hid (ker_skip (p := p) (n := n) (z := z) (k := k) (by rw [HF.out]; exact hin))
        clear hin
        go_wp2_with fail
        have hcall := l00Has_any fa (colI F) fc (k : Int) wo HFI.out (by rw [colI_len]; have := HLE.out; omega)
        rw [colI_len] at hcall
        refine hcall.mono ?_
        clear hcall
        rintro e w' ⟨rfl, rfl⟩
        rw [HT.out]
        go_wp2_with fail
        go_roundw
        case rel => exact ⟨k + 1, va, vc, us, by omega, by go_num, by rw [HSK.out]; exact HXQ.out, by rw [HSK.out]; exact HOQ.out, HB4R.out⟩
        case measure => simp [intOf]; omega
      have HT := Lib.hid (tell_false (fun q => hin ((hasIn_colI F k).1 q)))
      have HNX := Lib.hid (ker_next (p := p) (n := n) (z := z) (k := k) (by rw [HF.out]; exact hin))
      clear hin
      go_wp2_with fail
      have hcall := l00Has_any fa (colI F) fc (k : Int) wo HFI.out (by rw [colI_len]; have := HLE.out; omega)
      rw [colI_len] at hcall
      refine hcall.mono ?_
      clear hcall
      rintro e w' ⟨rfl, rfl⟩
      rw [HT.out]
      have hmk := HMK.out
      go_upto_region 8 with fail
      clear hmk
      have hr0 := World.rowIs_made wo (.int .i64 0) n 2
      have hB0 := (Below.refl wo.heap.size wo).alloc (Nat.le_refl _) (.cells (madeCells #[.int .i64 0] n) 2)
      have hrc := hr0.cell hlt
      have hfr := hr0.frozen k
      have hrl := hr0.lt
      have HR0 := Lib.hid ((hr0.set k (.int .i64 1)).congr (g := fun q => .int .i64 (solAt (oneAt k) F (kerG p n z k) 0 q)) (fun q _ => by
        show _ = Value.int .i64 (oneAt k q)
        unfold oneAt
        by_cases e : q = k
        · subst e; simp
        · simp [e]))
      have HB0 := Lib.hid (hB0.setCell (p := ⟨wo.heap.size, k, none⟩) (Nat.le_refl _) (.int .i64 1))
      clear hr0 hB0
      generalize wo.alloc (.cells (madeCells #[.int .i64 0] n) 2) = wm at *
      go_wp2_with fail
      generalize wm.setCell ⟨wo.heap.size, k, none⟩ (.int .i64 1) = w5 at *
      clear hrc hfr hrl
      go_loopw [8] (fun i wi => ∃ j : Nat, j ≤ F.length ∧ i = .int .i64 j ∧ wi.rowIs wo.heap.size 2 n (fun q => .int .i64 (solAt (oneAt k) F (kerG p n z k) j q)) ∧ Below wo.heap.size wo wi)
        (fun i _ => F.length - (intOf i).toNat)
      case atStart => exact ⟨0, Nat.zero_le _, rfl, HR0.out, HB0.out⟩
      case round =>
        obtain ⟨j, hj, rfl, hrow, hbi⟩ := hrel
        have HRO := Lib.hid hrow
        have HBI := Lib.hid hbi
        have hsz := hbi.size
        have d0 := (hbi.cell (p := ⟨q0, 0, none⟩) hqr).trans b0
        have d1 := (hbi.cell (p := ⟨q0, 1, none⟩) hqr).trans b1
        have d2 := (hbi.cell (p := ⟨w2.heap.size, 2, none⟩) hwr).trans b2
        have hqi : q0 < wr.heap.size := by omega
        have hwi : w2.heap.size < wr.heap.size := by omega
        clear hrow hbi HR0 HB0
        by_cases hltj : j < F.length
        · have hj0 : (j : Int) < (F.length : Int) := by omega
          rcases HFI.out.below HBI.out (Nat.le_refl _) with h9 | ⟨fb, fo, rfl, hfc⟩
          · have := congrArg List.length h9
            rw [colI_len] at this
            exact absurd hltj (by rw [this]; simp)
          have hfk := hfc j (by rw [colI_len]; exact hltj)
          rw [colI_nth hltj] at hfk
          have hrb := HFB.out j hltj
          have HRE := Lib.hid (show ∀ q : Nat, solAt (oneAt k) F (kerG p n z k) (j + 1) q = if q = nthN F j then kerG p n z k j else solAt (oneAt k) F (kerG p n z k) j q from fun q => rfl)
          obtain ⟨r, hr⟩ : ∃ r, nthN F j = r := ⟨_, rfl⟩
          rw [hr] at hfk hrb HRE
          clear hfc hr
          have e2 : (r : Int) < (n : Int) := by omega
          obtain ⟨b, g, cap, hea, -, -, hbl, hcr, -, hoi, -⟩ := (HOMB.out wr (HB4R.out.trans (HBI.out.mono (by omega)))).at (r := j) (by have := HLE.out; omega) (by omega)
          cases hea
          have d := hoi.at (j := k) hlt
          have dl := hoi.gl.2
          obtain ⟨y, hy⟩ : ∃ y, f j k = y := ⟨_, rfl⟩
          have hye := HEL.out j hltj k hlt
          rw [hy] at d hye
          obtain ⟨t, ht⟩ : ∃ t, p - y = t := ⟨_, rfl⟩
          have HKG := Lib.hid (show kerG p n z k j = t % p from by
            unfold kerG
            rw [← HTB.out, tab_at _ _ _ hltj hlt, hy, ht])
          have hw1 : IntKind.i64.wrap (p - y) = t := by rw [IntWalk.i64_in _ (by have := hye.1; have := hye.2; omega)]; exact ht
          have ht0 : 0 ≤ t := by have := hye.2; omega
          have ht1 : t ≤ 31 := by have := hye.1; omega
          have hy0 := hye.1
          have hy1 := hye.2
          have hjz : (j : Int) < (z.length : Int) := by have := HLE.out; omega
          have hrc := HRO.out.cell hrb
          have hfr := HRO.out.frozen r
          have hrl := HRO.out.lt
          have HRN := Lib.hid (fun (W : World) (h : W.rowIs wo.heap.size 2 n (fun q => .int .i64 (solAt (oneAt k) F (kerG p n z k) j q))) => (h.set r (.int .i64 (t % p))).congr (g := fun q => .int .i64 (solAt (oneAt k) F (kerG p n z k) (j + 1) q)) (fun q _ => by
            simp only [HRE.out, HKG.out]
            by_cases hq : q = r
            · subst hq; simp
            · simp [hq]))
          clear hoi HRE hye hy ht
          go_wp2_with fail
          go_region
          all_goals (
            go_wp2_with fail
            go_roundw
            case rel => exact ⟨j + 1, by omega, by go_num, by first | exact HRN.out _ HRO.out | exact HRN.out _ (rowIs_below HRO.out (drew_step _) HRO.out.lt) | exact rowIs_below (HRN.out _ HRO.out) (drew_step _) (HRN.out _ HRO.out).lt, by first | exact HBI.out.setCell (p := ⟨wo.heap.size, r, none⟩) (Nat.le_refl _) _ | exact (HBI.out.setCell (p := ⟨wo.heap.size, r, none⟩) (Nat.le_refl _) _).drew | exact (HBI.out.drew).setCell (p := ⟨wo.heap.size, r, none⟩) (Nat.le_refl _) _⟩
            case measure => simp [intOf]; omega)
        · have HE := Lib.hid (show j = F.length by omega)
          have hx1 := HXQ.out.step HBI.out
          have e2 := hx1.m2
          have f2 := hx1.frozen 2
          have hl1 := hx1.lt
          have hx1w : oo < wr.heap.size + 1 := by omega
          have HX1 := Lib.hid hx1
          have HOI2 := Lib.hid (show OwnI wr wo.heap.size (.slice (some ⟨wo.heap.size, 0, none⟩) n n) (kerRow p n z k) by
            have h1 := HRO.out
            rw [HE.out] at h1
            have h2 := own_of_row (zs := kerRow p n z k) (by rw [kerRow_len]; exact h1.congr (fun i hi => by unfold kerRow; rw [HF.out, rowOf_at _ _ hi])) (by rw [kerRow_len]; unfold maxLen; omega)
            rw [kerRow_len] at h2
            exact h2)
          have HRN := Lib.hid (HOQ.out.rows.snoc HBI.out HOI2.out hooq1)
          have HOG := Lib.hid (row_step HOQ.out.row HBI.out)
          obtain ⟨m, hm⟩ : ∃ m, (kerTo p n z k).length = m := ⟨_, rfl⟩
          have HM := Lib.hid hm
          rw [hm] at hklen HOG HX1 e2
          have HNL := Lib.hid (show (kerTo p n z (k + 1)).length = m + 1 by rw [HNX.out, List.length_append, hm]; rfl)
          clear hx1 hm HRO d0 d1 d2
          go_wp2_with (at_builtin; refine wpList_append_own _ rfl _ _ 23 rfl (oo + 1) 22 i1 (.slice none 0 0) 1 24 Try.underlying23 ji jz0 jz1 jz2 rfl (by decide) _ _ us rfl (World.ownsRow.alloc HOG.out _) ⟨wr.heap.size, 0, none⟩ 1 1 [(.slice (some ⟨wo.heap.size, 0, none⟩) n n)] rfl rfl (cell_one_new _ _ _) (by simp [Value.oneCell']) (by unfold maxLen; omega) (by omega) (by simp; omega) ?_; intro v' w7 hown7 hgrow7 _; obtain ⟨va', vc', rfl⟩ := rowForm hown7; have hxx := (HX1.out.step ((Below.refl _ _).alloc (Nat.le_refl _) (.cells #[(.slice (some ⟨wo.heap.size, 0, none⟩) n n)] 22))).grown hgrow7 (row_ge HOG.out (Nat.lt_succ_self _)); have g2 := hxx.m2; have gf := hxx.frozen 2)
          have hz7 : oo < w7.heap.size := hxx.lt
          have HX7 := Lib.hid hxx
          have HO7 := Lib.hid hown7
          have HG7 := Lib.hid hgrow7
          clear hxx hown7 hgrow7
          go_wp2_with fail
          go_roundw
          case rel =>
            refine ⟨k + 1, va', vc', us ++ [(.slice (some ⟨wo.heap.size, 0, none⟩) n n)], by omega, by go_num, by rw [HNL.out]; exact HX7.out.set3d _, ⟨?_, ?_⟩, ?_⟩
            · rw [HNL.out]
              exact row_set (u := .slice va' (m + 1) vc') (o := 2) HO7.out (Nat.lt_succ_self oo)
            · rw [HNX.out]
              refine (HRN.out.map (W' := w7) fun u zs ho => row_other (World.ownsRow.alloc ho _) (World.ownsRow.alloc HOG.out _) HG7.out (by decide)).map fun u zs ho => row_set ho (Nat.lt_succ_self oo) _
            · refine Below.setCell (p := ⟨oo, 2, none⟩) ?_ (Nat.le_refl oo) _
              exact ((HB4R.out.trans (HBI.out.mono (by omega))).alloc (by omega) _).grown HG7.out (by simp; omega) (fun q hq => by have := row_lt HOG.out hq; omega)
          case measure => simp [intOf]; omega
    · have HE := Lib.hid (show k = n by omega)
      have ho := HOQ.out
      have hk0 : ¬ (k : Int) < (n : Int) := by omega
      have c0 := HXQ.out.m0
      have c1 := HXQ.out.m1
      have c2 := HXQ.out.m2
      have r0 := (HBL.out.cell (p := ⟨w.heap.size, 0, none⟩) (show w.heap.size < oo by omega)).trans HY4.out.m0
      have r1 := (HBL.out.cell (p := ⟨w.heap.size, 1, none⟩) (show w.heap.size < oo by omega)).trans HY4.out.m1
      have r2 := (HBL.out.cell (p := ⟨w.heap.size, 2, none⟩) (show w.heap.size < oo by omega)).trans HY4.out.m2
      have s0 := (HBL.out.frozen (p := ⟨w.heap.size, 0, none⟩) (show w.heap.size < oo by omega)).trans (HY4.out.frozen 0)
      have s1 := (HBL.out.frozen (p := ⟨w.heap.size, 1, none⟩) (show w.heap.size < oo by omega)).trans (HY4.out.frozen 1)
      have s2 := (HBL.out.frozen (p := ⟨w.heap.size, 2, none⟩) (show w.heap.size < oo by omega)).trans (HY4.out.frozen 2)
      have HO9 := Lib.hid ho
      have HKZ := Lib.hid (show kerTo p n z k = kerZ p n z by unfold kerZ; rw [HE.out])
      clear ho
      go_wp2_with fail
      refine bodyPost_ret (v := .agg #[.int .i64 p, .int .i64 (n : Int), .slice va (kerTo p n z k).length vc]) (by simp [results, Try.results71, go_sem, r0, r1, r2]) rfl ?_
      have h8 := HO9.out
      rw [HKZ.out] at h8 ⊢
      refine ⟨⟨va, vc, rfl, us, ?_⟩, ?_⟩
      · have h9 := HOO.out
        exact ((((h8.setCell3 (p := ⟨w.heap.size, 0, none⟩) (by show w.heap.size < oo + 1; omega) _).setCell3 (p := ⟨w.heap.size, 1, none⟩) (by show w.heap.size < oo + 1; omega) _).setCell3 (p := ⟨w.heap.size, 2, none⟩) (by show w.heap.size < oo + 1; omega) _)).mono3 (by omega)
      · exact (((HBW.out.setCell (p := ⟨w.heap.size, 0, none⟩) (Nat.le_refl _) _).setCell (p := ⟨w.heap.size, 1, none⟩) (Nat.le_refl _) _).setCell (p := ⟨w.heap.size, 2, none⟩) (Nat.le_refl _) _)
end Go.Proofs.Ytekhjoenejgmaaa

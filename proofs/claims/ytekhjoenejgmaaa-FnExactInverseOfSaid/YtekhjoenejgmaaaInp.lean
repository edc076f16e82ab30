/- InverseOf of the program. -/
import Derived.Test.YtekhjoenejgmaaaIno
namespace Go.Proofs.Ytekhjoenejgmaaa
open Go.RowKit Go.Deep Go.Joins
set_option linter.unusedVariables false

set_option maxRecDepth 100000 in
set_option maxHeartbeats 4000000 in
theorem implIn_any (p c : Int) (a : Option Addr) (z : List (List Int)) (ca : Nat) (w : World) (hr : Rows2 w a z) (hl : Lens z) :
    Calls Try.prog 39 #[.agg #[.int .i64 p, .int .i64 c, .slice a z.length ca]] w (GivesMY w (inSel p c z 0 p) (inSel p c z 0 c) (inSel p c z [] (invZ p z.length z)) (inCode p c z)) := by
  have HR := Lib.hid hr
  have HL := Lib.hid hl
  clear hr hl
  obtain ⟨i1, ji, jz0, jz1, jz2⟩ := info_parts Try.infoInt64S
  go_enter Try.func39, Try.ntmps39
  go_wp2_with fail
  have hb2 := ((Below.refl w.heap.size w).alloc (Nat.le_refl _) (.cells #[.int .i64 p, .int .i64 c, .slice a z.length ca] 31)).alloc (by simp) (.cells #[.int .i64 0, .int .i64 0, .slice none 0 0] 31)
  have hx : Boxes ((w.alloc (.cells #[.int .i64 p, .int .i64 c, .slice a z.length ca] 31)).alloc (.cells #[.int .i64 0, .int .i64 0, .slice none 0 0] 31)) w.heap.size 31 #[.int .i64 p, .int .i64 c, .slice a z.length ca] := Boxes.step (World.alloc_heap_new w _) (al_b _ _)
  have hy : Boxes ((w.alloc (.cells #[.int .i64 p, .int .i64 c, .slice a z.length ca] 31)).alloc (.cells #[.int .i64 0, .int .i64 0, .slice none 0 0] 31)) (w.heap.size + 1) 31 #[.int .i64 0, .int .i64 0, .slice none 0 0] := by
    have : Boxes ((w.alloc (.cells #[.int .i64 p, .int .i64 c, .slice a z.length ca] 31)).alloc (.cells #[.int .i64 0, .int .i64 0, .slice none 0 0] 31)) (w.alloc (.cells #[.int .i64 p, .int .i64 c, .slice a z.length ca] 31)).heap.size 31 #[.int .i64 0, .int .i64 0, .slice none 0 0] := World.alloc_heap_new _ _
    simp only [World.size_alloc] at this
    exact this
  have hs2 : ((w.alloc (.cells #[.int .i64 p, .int .i64 c, .slice a z.length ca] 31)).alloc (.cells #[.int .i64 0, .int .i64 0, .slice none 0 0] 31)).heap.size = w.heap.size + 2 := by simp
  refine (squareOf_any p c a z ca _ (HR.out.below hb2 (Nat.le_refl _)) HL.out).mono ?_
  generalize ((w.alloc (.cells #[.int .i64 p, .int .i64 c, .slice a z.length ca] 31)).alloc (.cells #[.int .i64 0, .int .i64 0, .slice none 0 0] 31)) = w2 at *
  rintro e w3 ⟨⟨ga, gn, gc, gx, gy, gus, rfl, hog⟩, hb3⟩
  have HXM := Lib.hid (hx.step hb3)
  have HXR := Lib.hid (hy.step hb3)
  have HB := Lib.hid (hb2.trans (hb3.mono (by omega)))
  have hsz3 : w.heap.size + 2 ≤ w3.heap.size := by have := hb3.size; omega
  clear hb2 hx hy hs2 hb3
  have e0 := HXR.out.m0
  have e1 := HXR.out.m1
  have e2 := HXR.out.m2
  have f0 := HXR.out.frozen 0
  have f1 := HXR.out.frozen 1
  have f2 := HXR.out.frozen 2
  have hlt := HXR.out.lt
  have d0 := HXM.out.m0
  have d1 := HXM.out.m1
  have d2 := HXM.out.m2
  have hlm := HXM.out.lt
  by_cases hsq : sqCode p c z = 0
  case neg =>
    have HV := Lib.hid (in_sq hsq)
    have hsq2 : ¬ sqCode p c z = 0 := hsq
    generalize sqCode p c z = sc at *
    clear hog hsq
    go_wp2_with fail
    refine bodyPost_ret (v := .tuple #[.agg #[.int .i64 0, .int .i64 0, .slice none 0 0], .int .i64 sc]) (by simp [results, Try.results39, go_sem, e0, e1, e2, hlt]) rfl ⟨⟨.slice none 0 0, [], by rw [HV.out.1, HV.out.2, HV.out.2], by rw [HV.out.2]; exact Own.nil _ _⟩, ((((HB.out.setCell (p := ⟨w.heap.size + 1, 0, none⟩) (by show w.heap.size ≤ w.heap.size + 1; omega) _).setCell (p := ⟨w.heap.size + 1, 1, none⟩) (by show w.heap.size ≤ w.heap.size + 1; omega) _).setCell (p := ⟨w.heap.size + 1, 2, none⟩) (by show w.heap.size ≤ w.heap.size + 1; omega) _)).alloc (by simp; omega) _⟩
  obtain ⟨hm, hc⟩ := sq_cases hsq
  obtain ⟨hgx, hgy, hgn, hogg⟩ := hog hsq
  rw [hsq]
  subst hgx
  subst hgy
  subst hgn
  subst hc
  have HSQ := Lib.hid hsq
  have HM := Lib.hid hm
  have HGM := Lib.hid (show GoodM gx z.length z by have h := GoodM.of hm; simpa only [Int.toNat_natCast] using h)
  have hz12 : z.length ≤ 12 := by have := hm.2.1.2; omega
  have HGR := Lib.hid (grid_of hogg)
  clear hm hog hogg hsq
  have hbg := al_b w3 (.cells #[.slice ga z.length gc, .int .i64 gx, .int .i64 (z.length : Int)] 78)
  have hxg : Boxes (w3.alloc (.cells #[.slice ga z.length gc, .int .i64 gx, .int .i64 (z.length : Int)] 78)) w3.heap.size 78 #[.slice ga z.length gc, .int .i64 gx, .int .i64 (z.length : Int)] := World.alloc_heap_new _ _
  go_wp2_with fail
  refine (transposed_any gx z.length ga gc z _ (HGR.out.step hbg) (by omega) (by omega) (fun r hr => (HGM.out.rows r hr).1)).mono ?_
  replace HXM := Lib.hid (HXM.out.step hbg)
  replace HXR := Lib.hid (HXR.out.step hbg)
  replace HB := Lib.hid (HB.out.trans (hbg.mono (by omega)))
  clear hbg hxg e0 e1 e2 f0 f1 f2 hlt d0 d1 d2 hlm
  generalize w3.alloc (.cells #[.slice ga z.length gc, .int .i64 gx, .int .i64 (z.length : Int)] 78) = w4 at *
  rintro e w5 ⟨⟨tv, tus, rfl, hot⟩, hb5⟩
  obtain ⟨ta, tc, rfl⟩ := hot.form
  have HTG := Lib.hid (show GridR w5 ta gx (turned z z.length) by obtain ⟨a', c', e, hgr⟩ := hot.grid; cases e; exact hgr)
  replace HXM := Lib.hid (HXM.out.step hb5)
  replace HXR := Lib.hid (HXR.out.step hb5)
  replace HB := Lib.hid (HB.out.trans (hb5.mono HB.out.size))
  clear hot hb5
  generalize hp : gx = p at *
  have HTGOOD := Lib.hid (tur_good HGM.out rfl)
  generalize hTT : turned z z.length = TT at *
  have HTT := Lib.hid hTT
  clear hTT
  have hbt := al_b w5 (.cells #[.slice ta TT.length tc, .int .i64 p, .int .i64 (z.length : Int)] 78)
  have hxt : Boxes (w5.alloc (.cells #[.slice ta TT.length tc, .int .i64 p, .int .i64 (z.length : Int)] 78)) w5.heap.size 78 #[.slice ta TT.length tc, .int .i64 p, .int .i64 (z.length : Int)] := World.alloc_heap_new _ _
  have d0 := HXM.out.m0
  have d1 := HXM.out.m1
  have d2 := HXM.out.m2
  have hlm := HXM.out.lt
  go_upto_region 5 with fail
  clear d0 d1 d2 hlm
  replace HXM := Lib.hid (HXM.out.step hbt)
  replace HXR := Lib.hid (HXR.out.step hbt)
  replace HB := Lib.hid (HB.out.trans (hbt.mono HB.out.size))
  replace HTG := Lib.hid (HTG.out.step hbt)
  have HXT := Lib.hid hxt
  clear hbt hxt
  generalize hqt : w5.heap.size = qt at *
  generalize w5.alloc (.cells #[.slice ta TT.length tc, .int .i64 p, .int .i64 (z.length : Int)] 78) = w6 at *
  have d0 := HXM.out.m0
  have d1 := HXM.out.m1
  have d2 := HXM.out.m2
  have hlm := HXM.out.lt
  have hbo := al_b w6 (.cells #[.int .i64 p, .int .i64 (z.length : Int), .slice none 0 0] 31)
  have hxo : Boxes (w6.alloc (.cells #[.int .i64 p, .int .i64 (z.length : Int), .slice none 0 0] 31)) w6.heap.size 31 #[.int .i64 p, .int .i64 (z.length : Int), .slice none 0 0] := World.alloc_heap_new _ _
  go_upto_region 6 with fail
  clear d0 d1 d2 hlm
  have hqt2 : qt < w6.heap.size := HXT.out.lt
  have hqm2 : w.heap.size < w6.heap.size := HXM.out.lt
  have hqr2 : w.heap.size + 1 < w6.heap.size := HXR.out.lt
  have HBO := Lib.hid hbo
  have HXO := Lib.hid hxo
  clear hbo hxo
  generalize hoo : w6.heap.size = oo at *
  generalize w6.alloc (.cells #[.int .i64 p, .int .i64 (z.length : Int), .slice none 0 0] 31) = w7 at *
  have c1m := (HXM.out.step (show Below w6.heap.size w6 w7 by rw [hoo]; exact HBO.out)).m1
  have c1l := (HXM.out.step (show Below w6.heap.size w6 w7 by rw [hoo]; exact HBO.out)).lt
  have HOO := Lib.hid hoo
  clear hoo
  go_wp2_with fail
  clear c1m c1l
  go_loopw [8, 9, 10, 11, 30] (fun q8 q9 q10 q11 i wr => ∃ (k : Nat) (va : Option Addr) (vc : Nat) (us : List Value), k ≤ z.length ∧ i = .int .i64 k ∧ Boxes wr oo 31 #[.int .i64 p, .int .i64 (z.length : Int), .slice va k vc] ∧ Own wr (oo + 1) (.slice va k vc) us ((invZ p z.length z).take k) ∧ (∀ i, i < k → SolOk p z.length TT (unitL z.length i)) ∧ Below oo w6 wr)
    (fun _ _ _ _ i _ => z.length - (intOf i).toNat)
  case atStart => exact ⟨0, none, 0, [], Nat.zero_le _, rfl, HXO.out, Own.nil3 _ _, fun i hi => absurd hi (Nat.not_lt_zero _), HBO.out⟩
  case round =>
    obtain ⟨k, va, vc, us, hk, rfl, hx, hown, hok, hb⟩ := hrel
    have HXQ := Lib.hid hx
    have HOQ := Lib.hid hown
    have HOK := Lib.hid hok
    have hb6 : Below w6.heap.size w6 wr := by rw [HOO.out]; exact hb
    have HBL := Lib.hid hb
    have HM1 := Lib.hid (HXM.out.step hb6)
    have HR1 := Lib.hid (HXR.out.step hb6)
    have HT1 := Lib.hid (HXT.out.step hb6)
    have HG1 := Lib.hid (HTG.out.step hb6)
    have HBW := Lib.hid (HB.out.trans (hb6.mono HB.out.size))
    have hooq1 : oo + 1 ≤ wr.heap.size := hx.lt
    have d1 := HM1.out.m1
    have hlm := HM1.out.lt
    have hlk : ((invZ p z.length z).take k).length = k := by rw [List.length_take, invZ_len]; omega
    have HLK := Lib.hid hlk
    clear hx hown hok hb hb6 HBO HXO hlk
    by_cases hlt9 : k < z.length
    · have hi0 : (k : Int) < (z.length : Int) := by omega
      have hmk := run_make_row' (P := Try.prog) 22 2 (.int .i64 0) 8 Try.underlying22 Try.infoInt64 rfl .i64 .i64 z.length (by omega) (by omega)
      have hr0 := World.rowIs_made wr (.int .i64 0) z.length 2
      have g0 := hr0.cell hlt9
      have g1 := hr0.frozen k
      have g2 : wr.heap.size < (wr.alloc (.cells (madeCells #[.int .i64 0] z.length) 2)).heap.size := by simp
      have hun := unit_own wr z.length k (by omega) hlt9
      have hbu : Below wr.heap.size wr ((wr.alloc (.cells (madeCells #[.int .i64 0] z.length) 2)).setCell ⟨wr.heap.size, k, none⟩ (.int .i64 1)) := (al_b wr _).setCell (p := ⟨wr.heap.size, k, none⟩) (Nat.le_refl _) _
      go_upto_region 11 with fail
      clear hmk hr0 g0 g1 g2 d1 hlm
      have hset : (wr.alloc (.cells (madeCells #[.int .i64 0] z.length) 2)).setCell ⟨wr.heap.size, k, none⟩ (.int .i64 1) = wr.alloc (.cells ((madeCells #[.int .i64 0] z.length).setIfInBounds k (.int .i64 1)) 2) := World.setCell_alloc_new _ _ _ _
      rw [hset] at hun hbu
      clear hset
      have HU := Lib.hid hun
      have HBU := Lib.hid hbu
      clear hun hbu
      have hgs : wr.heap.size = wr.heap.size := rfl
      generalize wr.alloc (.cells ((madeCells #[.int .i64 0] z.length).setIfInBounds k (.int .i64 1)) 2) = w8 at *
      have x0 := (HT1.out.step HBU.out).m0
      have x1 := (HT1.out.step HBU.out).m1
      have x2 := (HT1.out.step HBU.out).m2
      have xl := (HT1.out.step HBU.out).lt
      go_wp2_with fail
      clear x0 x1 x2 xl
      have hsn := solution_any p z.length ta tc TT (some ⟨wr.heap.size, 0, none⟩) (unitL z.length k) z.length w8 HTGOOD.out.1 (by omega) (HG1.out.step HBU.out) (Ints_of_own HU.out) (by rw [unitL_len]; omega)
      obtain ⟨s1, s2⟩ := sn_yes (n := z.length) (show ValOk p TT (unitL z.length k) from ⟨by rw [unitL_len, HTGOOD.out.2], unitL_elems HGM.out.prm.1 _ _⟩)
      rw [s1, s2, unitL_len] at hsn
      refine hsn.mono ?_
      clear hsn s1 s2
      by_cases hs : SolOk p z.length TT (unitL z.length k)
      · obtain ⟨g1, g2⟩ := sol_yes hs
        rw [g1, g2]
        rintro e w9 ⟨⟨sv, rfl, hos⟩, hb9⟩
        have hzk := invZ_at (p := p) (z := z) hlt9
        rw [HTT.out] at hzk
        have HTK := Lib.hid (take_snoc (invZ p z.length z) (k := k) (by rw [invZ_len]; exact hlt9))
        rw [hzk] at HTK
        obtain ⟨sa, sc, hse⟩ := rowForm hos
        rw [solZ_len] at hse
        subst hse
        have hbn := HBU.out.trans (hb9.mono HBU.out.size)
        have HOS := Lib.hid (hos.mono HBU.out.size)
        have HBN := Lib.hid hbn
        generalize solZ p z.length TT (unitL z.length k) = sol at *
        have hxq := HXQ.out.step hbn
        have c2 := hxq.m2
        have cf := hxq.frozen 2
        have cl := hxq.lt
        have HX9 := Lib.hid hxq
        have HRN := Lib.hid (HOQ.out.rows.snoc hbn HOS.out hooq1)
        have HOG := Lib.hid (row_step HOQ.out.row hbn)
        have hsz9 : wr.heap.size ≤ w9.heap.size := hbn.size
        have HOK2 := Lib.hid (show ∀ i, i < k + 1 → SolOk p z.length TT (unitL z.length i) from fun i hi => by
          by_cases e : i = k
          · subst e; exact hs
          · exact HOK.out i (by omega))
        clear hbn hos hb9 hxq g1 g2 hzk hs HOK
        go_wp2_with (at_builtin; refine wpList_append_own _ rfl _ _ 23 rfl (oo + 1) 22 i1 (.slice none 0 0) 1 24 Try.underlying23 ji jz0 jz1 jz2 rfl (by decide) _ _ us rfl (World.ownsRow.alloc HOG.out _) ⟨w9.heap.size, 0, none⟩ 1 1 [(.slice sa z.length sc)] rfl rfl (cell_one_new _ _ _) (by simp [Value.oneCell']) (by rw [HLK.out]; unfold maxLen; omega) (by rw [HLK.out]; omega) (by simp; omega) ?_; intro v' w10 hown7 hgrow7 _; rw [HLK.out] at hown7; obtain ⟨va', vc', rfl⟩ := rowForm hown7; have hxx := (HX9.out.step ((Below.refl _ _).alloc (Nat.le_refl _) (.cells #[(.slice sa z.length sc)] 22))).grown hgrow7 (row_ge HOG.out (Nat.lt_succ_self _)); have g2 := hxx.m2; have gf := hxx.frozen 2)
        have hz7 : oo < w10.heap.size := hxx.lt
        have HX7 := Lib.hid hxx
        have HO7 := Lib.hid hown7
        have HG7 := Lib.hid hgrow7
        clear hxx hown7 hgrow7
        go_wp2_with fail
        go_roundw
        case rel =>
          refine ⟨k + 1, va', vc', us ++ [(.slice sa z.length sc)], by omega, by go_num, HX7.out.set3d _, ⟨?_, ?_⟩, HOK2.out, ?_⟩
          · have := row_set (u := .slice va' (k + 1) vc') (o := 2) HO7.out (Nat.lt_succ_self oo)
            rw [HTK.out, List.length_append, HLK.out]
            exact this
          · rw [HTK.out]
            refine (HRN.out.map (W' := w10) fun u zs ho => row_other (World.ownsRow.alloc ho _) (World.ownsRow.alloc HOG.out _) HG7.out (by decide)).map fun u zs ho => row_set ho (Nat.lt_succ_self oo) _
          · refine Below.setCell (p := ⟨oo, 2, none⟩) ?_ (Nat.le_refl oo) _
            exact ((HBL.out.trans (HBN.out.mono (by omega))).alloc (by omega) _).grown HG7.out (by simp; omega) (fun q hq => by have := row_lt HOG.out hq; omega)
        case measure => simp [intOf]; omega
      · obtain ⟨g1, g2⟩ := sol_no hs
        rw [g1, g2]
        rintro e w9 ⟨⟨sv, rfl, hos⟩, hb9⟩
        have hbn := HBU.out.trans (hb9.mono HBU.out.size)
        have HXRn := Lib.hid (HR1.out.step hbn)
        have HBn := Lib.hid (HBW.out.trans (hbn.mono HBW.out.size))
        have HV := Lib.hid (in_no HSQ.out (fun h => hs (by have := h k hlt9; rw [HTT.out] at this; exact this)))
        have e0 := HXRn.out.m0
        have e1 := HXRn.out.m1
        have e2 := HXRn.out.m2
        have f0 := HXRn.out.frozen 0
        have f1 := HXRn.out.frozen 1
        have f2 := HXRn.out.frozen 2
        have hlt := HXRn.out.lt
        clear hbn hos hb9 g1 g2 hs
        go_wp2_with fail
        refine bodyPost_ret (v := .tuple #[.agg #[.int .i64 0, .int .i64 0, .slice none 0 0], .int .i64 4]) (by simp [results, Try.results39, go_sem, e0, e1, e2]) rfl ⟨⟨.slice none 0 0, [], by rw [HV.out.1, HV.out.2, HV.out.2], by rw [HV.out.2]; exact Own.nil _ _⟩, (((HBn.out.setCell (p := ⟨w.heap.size + 1, 0, none⟩) (by show w.heap.size ≤ w.heap.size + 1; omega) _).setCell (p := ⟨w.heap.size + 1, 1, none⟩) (by show w.heap.size ≤ w.heap.size + 1; omega) _).setCell (p := ⟨w.heap.size + 1, 2, none⟩) (by show w.heap.size ≤ w.heap.size + 1; omega) _)⟩
    · have hi0 : ¬ (k : Int) < (z.length : Int) := by omega
      have hE : k = z.length := by omega
      have ho := HOQ.out
      have hxq := HXQ.out
      have hall : (invZ p z.length z).take k = invZ p z.length z := List.take_of_length_le (by rw [invZ_len]; omega)
      rw [hall, hE] at ho
      rw [hE] at hxq
      have HV := Lib.hid (in_yes HM.out rfl (fun i hi => by rw [HTT.out]; exact HOK.out i (by omega)))
      have c0 := hxq.m0
      have c1 := hxq.m1
      have c2 := hxq.m2
      have wl := hxq.lt
      have r0 := HR1.out.m0
      have r1 := HR1.out.m1
      have r2 := HR1.out.m2
      have s0 := HR1.out.frozen 0
      have s1 := HR1.out.frozen 1
      have s2 := HR1.out.frozen 2
      have HO9 := Lib.hid ho
      clear ho hxq hall d1 hlm
      go_wp2_with fail
      refine bodyPost_ret (v := .tuple #[.agg #[.int .i64 p, .int .i64 (z.length : Int), .slice va z.length vc], .int .i64 0]) (by simp [results, Try.results39, go_sem, r0, r1, r2]) rfl ⟨⟨.slice va z.length vc, us, by rw [HV.out.1, HV.out.2, HV.out.2], ?_⟩, (((HBW.out.setCell (p := ⟨w.heap.size + 1, 0, none⟩) (by show w.heap.size ≤ w.heap.size + 1; omega) _).setCell (p := ⟨w.heap.size + 1, 1, none⟩) (by show w.heap.size ≤ w.heap.size + 1; omega) _).setCell (p := ⟨w.heap.size + 1, 2, none⟩) (by show w.heap.size ≤ w.heap.size + 1; omega) _)⟩
      rw [HV.out.2]
      exact ((((HO9.out.setCell3 (p := ⟨w.heap.size + 1, 0, none⟩) (by show w.heap.size + 1 < oo + 1; omega) _).setCell3 (p := ⟨w.heap.size + 1, 1, none⟩) (by show w.heap.size + 1 < oo + 1; omega) _).setCell3 (p := ⟨w.heap.size + 1, 2, none⟩) (by show w.heap.size + 1 < oo + 1; omega) _)).mono3 (by omega)
end Go.Proofs.Ytekhjoenejgmaaa

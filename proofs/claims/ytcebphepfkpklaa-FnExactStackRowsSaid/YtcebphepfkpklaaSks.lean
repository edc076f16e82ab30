/- StackRows of the model. -/
import Derived.Test.YtcebphepfkpklaaSk
namespace Go.Proofs.Ytcebphepfkpklaa
open Go.RowKit Go.Deep Go.Joins Go.ChangeShapes Go.WideShapes Go.ChangeAt
set_option linter.unusedVariables false

set_option maxRecDepth 100000 in
set_option maxHeartbeats 4000000 in
theorem specSk_any (p c : Int) (a : Option Addr) (z : List (List Int)) (ca : Nat) (q d : Int) (b : Option Addr) (y : List (List Int)) (cb : Nat) (w : World) (hr : Rows2 w a z) (hl : Lens z) (hr' : Rows2 w b y) (hl' : Lens y) :
    Calls Try.prog 25 #[.agg #[.int .i64 p, .int .i64 c, .slice a z.length ca], .agg #[.int .i64 q, .int .i64 d, .slice b y.length cb]] w (GivesMY w (skSel p c z q d y 0 0 0 p) (skSel p c z q d y 0 0 0 c) (skSel p c z q d y [] [] [] (z ++ y)) (skSel p c z q d y 1 2 3 0)) := by
  have HR := Lib.hid hr
  have HL := Lib.hid hl
  have HR' := Lib.hid hr'
  have HL' := Lib.hid hl'
  clear hr hl hr' hl'
  go_enter Try.func25, Try.ntmps25
  go_wp2_with fail
  have hb3 := (((Below.refl w.heap.size w).alloc (Nat.le_refl _) (.cells #[.int .i64 p, .int .i64 c, .slice a z.length ca] 27)).alloc (by simp) (.cells #[.int .i64 q, .int .i64 d, .slice b y.length cb] 27)).alloc (by simp; omega) (.cells #[.int .i64 0, .int .i64 0, .slice none 0 0] 27)
  have hs3 : (((w.alloc (.cells #[.int .i64 p, .int .i64 c, .slice a z.length ca] 27)).alloc (.cells #[.int .i64 q, .int .i64 d, .slice b y.length cb] 27)).alloc (.cells #[.int .i64 0, .int .i64 0, .slice none 0 0] 27)).heap.size = w.heap.size + 3 := by simp
  have hx : Boxes (((w.alloc (.cells #[.int .i64 p, .int .i64 c, .slice a z.length ca] 27)).alloc (.cells #[.int .i64 q, .int .i64 d, .slice b y.length cb] 27)).alloc (.cells #[.int .i64 0, .int .i64 0, .slice none 0 0] 27)) w.heap.size 27 #[.int .i64 p, .int .i64 c, .slice a z.length ca] := (Boxes.step (World.alloc_heap_new w _) ((Below.refl _ _).alloc (Nat.le_refl _) (.cells #[.int .i64 q, .int .i64 d, .slice b y.length cb] 27))).step ((Below.refl _ _).alloc (Nat.le_refl _) (.cells #[.int .i64 0, .int .i64 0, .slice none 0 0] 27))
  have hy : Boxes (((w.alloc (.cells #[.int .i64 p, .int .i64 c, .slice a z.length ca] 27)).alloc (.cells #[.int .i64 q, .int .i64 d, .slice b y.length cb] 27)).alloc (.cells #[.int .i64 0, .int .i64 0, .slice none 0 0] 27)) (w.heap.size + 1) 27 #[.int .i64 q, .int .i64 d, .slice b y.length cb] := by
    have h : Boxes ((w.alloc (.cells #[.int .i64 p, .int .i64 c, .slice a z.length ca] 27)).alloc (.cells #[.int .i64 q, .int .i64 d, .slice b y.length cb] 27)) (w.alloc (.cells #[.int .i64 p, .int .i64 c, .slice a z.length ca] 27)).heap.size 27 #[.int .i64 q, .int .i64 d, .slice b y.length cb] := World.alloc_heap_new _ _
    simp only [World.size_alloc] at h
    exact h.step ((Below.refl _ _).alloc (Nat.le_refl _) (.cells #[.int .i64 0, .int .i64 0, .slice none 0 0] 27))
  have hz : Boxes (((w.alloc (.cells #[.int .i64 p, .int .i64 c, .slice a z.length ca] 27)).alloc (.cells #[.int .i64 q, .int .i64 d, .slice b y.length cb] 27)).alloc (.cells #[.int .i64 0, .int .i64 0, .slice none 0 0] 27)) (w.heap.size + 2) 27 #[.int .i64 0, .int .i64 0, .slice none 0 0] := by
    have h : Boxes (((w.alloc (.cells #[.int .i64 p, .int .i64 c, .slice a z.length ca] 27)).alloc (.cells #[.int .i64 q, .int .i64 d, .slice b y.length cb] 27)).alloc (.cells #[.int .i64 0, .int .i64 0, .slice none 0 0] 27)) ((w.alloc (.cells #[.int .i64 p, .int .i64 c, .slice a z.length ca] 27)).alloc (.cells #[.int .i64 q, .int .i64 d, .slice b y.length cb] 27)).heap.size 27 #[.int .i64 0, .int .i64 0, .slice none 0 0] := World.alloc_heap_new _ _
    simp only [World.size_alloc] at h
    exact h
  have hr3 := HR.out.below hb3 (Nat.le_refl _)
  refine (l03Ok_any w.heap.size p c a z ca _ hx hr3 HL.out).mono ?_
  generalize ((w.alloc (.cells #[.int .i64 p, .int .i64 c, .slice a z.length ca] 27)).alloc (.cells #[.int .i64 q, .int .i64 d, .slice b y.length cb] 27)).alloc (.cells #[.int .i64 0, .int .i64 0, .slice none 0 0] 27) = w3 at *
  rintro e w4 ⟨rfl, hq⟩
  have hb4 := quiet_below hq
  have HX := Lib.hid (hx.step hb4)
  have HY := Lib.hid (hy.step hb4)
  have HZ := Lib.hid (hz.step hb4)
  have HB := Lib.hid (hb3.trans (hb4.mono (by omega)))
  have hs4 : w.heap.size + 3 ≤ w4.heap.size := by have := hb4.size; omega
  clear hb3 hb4 hx hy hz hr3 hq hs3
  have r0 := HZ.out.m0
  have r1 := HZ.out.m1
  have r2 := HZ.out.m2
  have f0 := HZ.out.frozen 0
  have f1 := HZ.out.frozen 1
  have f2 := HZ.out.frozen 2
  have x0 := HX.out.m0
  have x1 := HX.out.m1
  have x2 := HX.out.m2
  have y0 := HY.out.m0
  have y1 := HY.out.m1
  have y2 := HY.out.m2
  have lz := HZ.out.lt
  have lx := HX.out.lt
  have ly := HY.out.lt
  by_cases hm : MatOk p c z
  case neg =>
    have HT := Lib.hid (tell_false hm)
    have HV := Lib.hid (fun (α : Type) (b r l o : α) => sk_bad (q := q) (d := d) (y := y) (fun k => hm k.1) b r l o)
    clear hm
    rw [HT.out]
    go_wp2_with fail
    refine bodyPost_ret (v := .tuple #[.agg #[.int .i64 0, .int .i64 0, .slice none 0 0], .int .i64 1]) (by simp [results, Try.results25, go_sem, r0, r1, r2]) rfl ⟨⟨.slice none 0 0, [], by rw [HV.out, HV.out, HV.out], by rw [HV.out]; exact Own.nil3 _ _⟩, (((HB.out.setCell (p := ⟨w.heap.size + 2, 0, none⟩) (by show w.heap.size ≤ w.heap.size + 2; omega) _).setCell (p := ⟨w.heap.size + 2, 1, none⟩) (by show w.heap.size ≤ w.heap.size + 2; omega) _).setCell (p := ⟨w.heap.size + 2, 2, none⟩) (by show w.heap.size ≤ w.heap.size + 2; omega) _)⟩
  have HT := Lib.hid (tell_true hm)
  have HM := Lib.hid hm
  clear hm
  rw [HT.out]
  go_wp2_with fail
  refine (l03Ok_any (w.heap.size + 1) q d b y cb _ HY.out (HR'.out.below HB.out (Nat.le_refl _)) HL'.out).mono ?_
  clear r0 r1 r2 f0 f1 f2 x0 x1 x2 y0 y1 y2 lz lx ly
  rintro e w5 ⟨rfl, hq⟩
  have hb5 := quiet_below hq
  replace HX := Lib.hid (HX.out.step hb5)
  replace HY := Lib.hid (HY.out.step hb5)
  replace HZ := Lib.hid (HZ.out.step hb5)
  replace HB := Lib.hid (HB.out.trans (hb5.mono HB.out.size))
  have hs5 : w.heap.size + 3 ≤ w5.heap.size := by have := hb5.size; omega
  clear hb5 hq hs4
  have r0 := HZ.out.m0
  have r1 := HZ.out.m1
  have r2 := HZ.out.m2
  have f0 := HZ.out.frozen 0
  have f1 := HZ.out.frozen 1
  have f2 := HZ.out.frozen 2
  have x0 := HX.out.m0
  have x1 := HX.out.m1
  have x2 := HX.out.m2
  have y0 := HY.out.m0
  have y1 := HY.out.m1
  have y2 := HY.out.m2
  have lz := HZ.out.lt
  have lx := HX.out.lt
  have ly := HY.out.lt
  by_cases hn : MatOk q d y
  case neg =>
    have HT := Lib.hid (tell_false hn)
    have HV := Lib.hid (fun (α : Type) (b r l o : α) => sk_bad (p := p) (c := c) (z := z) (fun k => hn k.2) b r l o)
    clear hn
    rw [HT.out]
    go_wp2_with fail
    refine bodyPost_ret (v := .tuple #[.agg #[.int .i64 0, .int .i64 0, .slice none 0 0], .int .i64 1]) (by simp [results, Try.results25, go_sem, r0, r1, r2]) rfl ⟨⟨.slice none 0 0, [], by rw [HV.out, HV.out, HV.out], by rw [HV.out]; exact Own.nil3 _ _⟩, (((HB.out.setCell (p := ⟨w.heap.size + 2, 0, none⟩) (by show w.heap.size ≤ w.heap.size + 2; omega) _).setCell (p := ⟨w.heap.size + 2, 1, none⟩) (by show w.heap.size ≤ w.heap.size + 2; omega) _).setCell (p := ⟨w.heap.size + 2, 2, none⟩) (by show w.heap.size ≤ w.heap.size + 2; omega) _)⟩
  have HU := Lib.hid (tell_true hn)
  have HN := Lib.hid hn
  clear hn
  rw [HU.out]
  by_cases he : p = q ∧ c = d
  case neg =>
    have HV := Lib.hid (fun (α : Type) (b r l o : α) => sk_rng ⟨HM.out, HN.out⟩ he b r l o)
    by_cases hpq : p = q
    · have hcd : (c != d) = true := by simp; exact fun e => he ⟨hpq, e⟩
      subst hpq
      clear he
      go_wp2_with fail
      refine bodyPost_ret (v := .tuple #[.agg #[.int .i64 0, .int .i64 0, .slice none 0 0], .int .i64 2]) (by simp [results, Try.results25, go_sem, r0, r1, r2]) rfl ⟨⟨.slice none 0 0, [], by rw [HV.out, HV.out, HV.out], by rw [HV.out]; exact Own.nil3 _ _⟩, (((HB.out.setCell (p := ⟨w.heap.size + 2, 0, none⟩) (by show w.heap.size ≤ w.heap.size + 2; omega) _).setCell (p := ⟨w.heap.size + 2, 1, none⟩) (by show w.heap.size ≤ w.heap.size + 2; omega) _).setCell (p := ⟨w.heap.size + 2, 2, none⟩) (by show w.heap.size ≤ w.heap.size + 2; omega) _)⟩
    · have hpq' : (p != q) = true := by simp; exact hpq
      clear he
      go_wp2_with fail
      refine bodyPost_ret (v := .tuple #[.agg #[.int .i64 0, .int .i64 0, .slice none 0 0], .int .i64 2]) (by simp [results, Try.results25, go_sem, r0, r1, r2]) rfl ⟨⟨.slice none 0 0, [], by rw [HV.out, HV.out, HV.out], by rw [HV.out]; exact Own.nil3 _ _⟩, (((HB.out.setCell (p := ⟨w.heap.size + 2, 0, none⟩) (by show w.heap.size ≤ w.heap.size + 2; omega) _).setCell (p := ⟨w.heap.size + 2, 1, none⟩) (by show w.heap.size ≤ w.heap.size + 2; omega) _).setCell (p := ⟨w.heap.size + 2, 2, none⟩) (by show w.heap.size ≤ w.heap.size + 2; omega) _)⟩
  obtain ⟨rfl, rfl⟩ := he
  have HSZ := Lib.hid (mat_small3 HM.out)
  have HSY := Lib.hid (mat_small3 HN.out)
  have hz20 : z.length ≤ 20 := HM.out.2.2.1
  have hy20 : y.length ≤ 20 := HN.out.2.2.1
  go_wp2_with fail
  refine (l03Copy_any w.heap.size p c a z ca _ HX.out (HR.out.below HB.out (Nat.le_refl _)) HSZ.out).mono ?_
  clear r0 r1 r2 f0 f1 f2 x0 x1 x2 y0 y1 y2 lz lx ly
  rintro e w6 ⟨⟨va, vc, us, rfl, ho⟩, hb6⟩
  replace HX := Lib.hid (HX.out.step hb6)
  replace HY := Lib.hid (HY.out.step hb6)
  replace HZ := Lib.hid (HZ.out.step hb6)
  replace HB := Lib.hid (HB.out.trans (hb6.mono HB.out.size))
  have hs6 : w.heap.size + 3 ≤ w6.heap.size := by have := hb6.size; omega
  have HO := Lib.hid ho
  have h5s : w5.heap.size ≤ w6.heap.size := hb6.size
  have HUB := Lib.hid (show ∀ u ∈ us, ∀ b, u.ownBlock = some b → b < w6.heap.size from fun u hu b e => by
    obtain ⟨i, hi, rfl⟩ := List.mem_iff_getElem.1 hu
    exact ((ho.rows.own i us[i] (z[i]'(by rw [← ho.rows.len]; exact hi)) (by simp [hi]) (by simp)).lt e).2)
  clear hb6 ho
  have r0 := HZ.out.m0
  have r1 := HZ.out.m1
  have r2 := HZ.out.m2
  have f0 := HZ.out.frozen 0
  have f1 := HZ.out.frozen 1
  have f2 := HZ.out.frozen 2
  have x0 := HX.out.m0
  have x1 := HX.out.m1
  have x2 := HX.out.m2
  have y0 := HY.out.m0
  have y1 := HY.out.m1
  have y2 := HY.out.m2
  have lz := HZ.out.lt
  have lx := HX.out.lt
  have ly := HY.out.lt
  go_wp2_with fail
  have hb7 := (Below.refl w6.heap.size w6).alloc (Nat.le_refl _) (.cells #[.int .i64 p, .int .i64 c, .slice va z.length vc] 27)
  have hk7 : Boxes (w6.alloc (.cells #[.int .i64 p, .int .i64 c, .slice va z.length vc] 27)) w6.heap.size 27 #[.int .i64 p, .int .i64 c, .slice va z.length vc] := World.alloc_heap_new _ _
  have hY7 := HY.out.step hb7
  refine (l03Copy_any (w.heap.size + 1) p c b y cb _ hY7 ((HR'.out.below HB.out (Nat.le_refl _)).below hb7 (Nat.le_refl _)) HSY.out).mono ?_
  clear r0 r1 r2 f0 f1 f2 x0 x1 x2 y0 y1 y2 lz lx ly
  generalize w6.alloc (.cells #[.int .i64 p, .int .i64 c, .slice va z.length vc] 27) = w7 at *
  rintro e w8 ⟨⟨vb, vd, us2, rfl, ho2⟩, hb8⟩
  have h7s : w6.heap.size + 1 ≤ w7.heap.size := hk7.lt
  have h8s : w7.heap.size ≤ w8.heap.size := hb8.size
  have hb68 := hb7.trans (hb8.mono hb7.size)
  replace HZ := Lib.hid (HZ.out.step hb68)
  replace HB := Lib.hid (HB.out.trans (hb68.mono HB.out.size))
  have HK := Lib.hid (hk7.step hb8)
  have hown5 : ∀ r, (Value.slice va z.length vc).ownBlock = some r → r < w6.heap.size := fun r e => (row_lt HO.out.row e).2
  have HW5 := Lib.hid hown5
  replace HO := Lib.hid (HO.out.step hb68)
  have HO2 := Lib.hid ho2
  clear hb7 hk7 hY7 hb8 hb68 ho2 hown5 HX HY
  generalize hkk : w6.heap.size = kk at *
  have HS9 := Lib.hid (show (w8.alloc (.cells #[.int .i64 p, .int .i64 c, .slice vb y.length vd] 27)).heap.size = w8.heap.size + 1 by simp)
  have HB8 := Lib.hid ((Below.refl w8.heap.size w8).alloc (Nat.le_refl _) (.cells #[.int .i64 p, .int .i64 c, .slice vb y.length vd] 27))
  have HOA := Lib.hid (HO.out.step HB8.out)
  have HOB := Lib.hid (HO2.out.step HB8.out)
  have HKA := Lib.hid (HK.out.step HB8.out)
  have HZA := Lib.hid (HZ.out.step HB8.out)
  have HBA := Lib.hid (HB.out.trans (HB8.out.mono HB.out.size))
  have k2 := HK.out.m2
  have lk := HK.out.lt
  have kf := HK.out.frozen 2
  have k0 := HK.out.m0
  have k1 := HK.out.m1
  obtain ⟨i1, ji, jz0, jz1, jz2⟩ := info_parts Try.infoInt64S
  rcases HO2.out.row.2 with ⟨hv, hn⟩ | ⟨g2, cap2, cur2, hv, _⟩
  · have hy0 : y = [] := List.eq_nil_of_length_eq_zero hn
    subst hy0
    simp at hv
    obtain ⟨rfl, rfl⟩ := hv
    have hu0 : us2 = [] := List.eq_nil_of_length_eq_zero (by rw [HO2.out.rows.len]; rfl)
    subst hu0
    have HR9 := Lib.hid (show w8.ownsRow w5.heap.size 25 1 (.slice va z.length vc) (z.length + ([] : List (List Int)).length) (us ++ []) by simpa using HO.out.row)
    have HA9 := Lib.hid HO.out.rows
    have HB9 := Lib.hid HO2.out.rows
    have HK9 := Lib.hid HK.out
    have HZ9 := Lib.hid HZ.out
    have HW9 := Lib.hid HB.out
    go_wp2_with (at_builtin; refine wpList_append_none_c rfl _ _ 22 rfl w5.heap.size 25 i1 1 Try.underlying22 ji _ z.length us 0 rfl HOA.out.row rfl ?_)
    clear HS9 HB8 HOA HOB HKA HZA HBA HO HO2 HK HZ HB
    obtain ⟨hn9, hr9⟩ := rows2_cat HR9.out HA9.out HB9.out
    have k0 := HK9.out.m0
    have k1 := HK9.out.m1
    have k2 := HK9.out.m2
    have kf := HK9.out.frozen 2
    have lk := HK9.out.lt
    have hkk' : w.heap.size + 3 ≤ kk := by omega
    have HKS := Lib.hid (HK9.out.set3d (.slice va z.length vc))
    have HRS := Lib.hid (row_setb HR9.out HK9.out.is (by decide) (o := 2) (.slice va z.length vc))
    have HAS := Lib.hid (rows_setb HA9.out HK9.out.is (by decide) (o := 2) (.slice va z.length vc))
    have HBS := Lib.hid (rows_setb HB9.out HK9.out.is (by decide) (o := 2) (.slice va z.length vc))
    have HZS := Lib.hid (show Boxes (w8.setCell ⟨kk, 2, none⟩ (.slice va z.length vc)) (w.heap.size + 2) 27 #[.int .i64 0, .int .i64 0, .slice none 0 0] by
      unfold Boxes
      rw [Below.heap_setCell _ _ _ (w.heap.size + 2) (by show w.heap.size + 2 ≠ kk; omega)]
      exact HZ9.out)
    have HWS := Lib.hid (HW9.out.setCell (p := ⟨kk, 2, none⟩) (by show w.heap.size ≤ kk; omega) (.slice va z.length vc))
    have HAL := Lib.hid ((Below.refl (w8.setCell ⟨kk, 2, none⟩ (.slice va z.length vc)).heap.size (w8.setCell ⟨kk, 2, none⟩ (.slice va z.length vc))).alloc (Nat.le_refl _) (.cells #[.int .i64 p, .int .i64 c, .slice none 0 0] 27))
    replace HRS := Lib.hid (row_step HRS.out HAL.out)
    replace HAS := Lib.hid (HAS.out.map fun _ _ k => row_step k HAL.out)
    replace HBS := Lib.hid (HBS.out.map fun _ _ k => row_step k HAL.out)
    replace HZS := Lib.hid (HZS.out.step HAL.out)
    replace HWS := Lib.hid (HWS.out.trans (HAL.out.mono HWS.out.size))
    clear HAL HKS k0 k1 k2 kf lk HK9 HR9 HA9 HB9 HZ9 HW9
    have hr9s := (rows2_cat HRS.out HAS.out HBS.out).2
    have HSC := Lib.hid (small_cat HM.out HN.out)
    generalize (w8.setCell ⟨kk, 2, none⟩ (.slice va z.length vc)).alloc (.cells #[.int .i64 p, .int .i64 c, .slice none 0 0] 27) = w10 at *
    by_cases h20 : z.length + ([] : List (List Int)).length ≤ 20
    · refine (l03Told_ok p c va (z ++ []) z.length vc (by simp) _ hr9s HSC.out.lens ((mat_cat HM.out HN.out).2 h20)).mono ?_
      have HV := Lib.hid (fun (α : Type) (b r l o : α) => sk_ok ⟨HM.out, HN.out⟩ ⟨rfl, rfl⟩ h20 b r l o)
      rintro e w11 ⟨rfl, hb11⟩
      replace HRS := Lib.hid (row_step HRS.out hb11)
      replace HAS := Lib.hid (HAS.out.map fun _ _ k => row_step k hb11)
      replace HBS := Lib.hid (HBS.out.map fun _ _ k => row_step k hb11)
      replace HZS := Lib.hid (HZS.out.step hb11)
      replace HWS := Lib.hid (HWS.out.trans (hb11.mono HWS.out.size))
      have r0 := HZS.out.m0
      have r1 := HZS.out.m1
      have r2 := HZS.out.m2
      have f0 := HZS.out.frozen 0
      have f1 := HZS.out.frozen 1
      have f2 := HZS.out.frozen 2
      have lz := HZS.out.lt
      clear hb11 hr9 hr9s hn9
      go_wp2_with fail
      have q0 := HZS.out.is
      have q1 := q0.set (w.heap.size + 2) 0 (.int .i64 p)
      have q2 := q1.set (w.heap.size + 2) 1 (.int .i64 c)
      have R1 := row_setb (row_setb (row_setb HRS.out q0 (by decide) (o := 0) (.int .i64 p)) q1 (by decide) (o := 1) (.int .i64 c)) q2 (by decide) (o := 2) (.slice va z.length vc)
      have R2 := rows_setb (rows_setb (rows_setb HAS.out q0 (by decide) (o := 0) (.int .i64 p)) q1 (by decide) (o := 1) (.int .i64 c)) q2 (by decide) (o := 2) (.slice va z.length vc)
      have R3 := rows_setb (rows_setb (rows_setb HBS.out q0 (by decide) (o := 0) (.int .i64 p)) q1 (by decide) (o := 1) (.int .i64 c)) q2 (by decide) (o := 2) (.slice va z.length vc)
      refine bodyPost_ret (v := .tuple #[.agg #[.int .i64 p, .int .i64 c, .slice va z.length vc], .int .i64 0]) (by simp [results, Try.results25, go_sem, r0, r1, r2]) rfl ⟨⟨.slice va z.length vc, us ++ [], by rw [HV.out, HV.out, HV.out], by rw [HV.out]; exact Own.mono3 ⟨by rw [List.length_append]; exact R1, R2.cat R3 (by omega) (fun u hu b e => by have := HUB.out u hu b e; omega)⟩ (by omega)⟩, (((HWS.out.setCell (p := ⟨w.heap.size + 2, 0, none⟩) (by show w.heap.size ≤ w.heap.size + 2; omega) _).setCell (p := ⟨w.heap.size + 2, 1, none⟩) (by show w.heap.size ≤ w.heap.size + 2; omega) _).setCell (p := ⟨w.heap.size + 2, 2, none⟩) (by show w.heap.size ≤ w.heap.size + 2; omega) _)⟩
    · exact absurd (by simpa using hz20) h20
  · cases hv
    have A1 : us2.length = y.length * 1 := by rw [HO2.out.rows.len]; omega
    have A2 : ∀ (j : Nat) (u : Value), us2[j]? = some u → (w8.alloc (.cells #[.int .i64 p, .int .i64 c, .slice (some ⟨g2, 0, none⟩) y.length vd] 27)).cell? ((⟨g2, 0, none⟩ : Addr).add j) = some u := fun j u hj => by rw [add_plain, Nat.zero_add, World.ownsRow.cellAt HOB.out.row j (by have := (List.getElem?_eq_some_iff.1 hj).1; rw [HO2.out.rows.len] at this; omega)]; exact hj
    have A3 : w5.heap.size ≤ (w8.alloc (.cells #[.int .i64 p, .int .i64 c, .slice (some ⟨g2, 0, none⟩) y.length vd] 27)).heap.size := (by have := HS9.out; omega)
    have A4 := rows_one HO2.out.rows
    have A5 : z.length + y.length ≤ maxLen := by unfold maxLen; omega
    go_wp2_with (at_builtin; refine wpList_append_own _ rfl _ _ 22 rfl w5.heap.size 25 i1 (.slice none 0 0) 1 24 Try.underlying22 ji jz0 jz1 jz2 rfl (by decide) _ z.length us rfl HOA.out.row ⟨g2, 0, none⟩ y.length vd us2 rfl A1 A2 A4 A5 (by omega) A3 ?_; intro v9 w9 hown9 hgrow9 hiff9; clear hiff9; obtain ⟨av, ac, rfl⟩ := rowForm hown9; have HR9 := Lib.hid hown9; have HA9 := Lib.hid (show RowsOwn w9 w5.heap.size us z from HOA.out.rows.map fun u zs ho => row_other ho HOA.out.row hgrow9 (by decide)); have HB9 := Lib.hid (show RowsOwn w9 w7.heap.size us2 y from HOB.out.rows.map fun u zs ho => row_other ho HOA.out.row hgrow9 (by decide)); have HK9 := Lib.hid (HKA.out.grown hgrow9 (fun e => by have := HW5.out _ e; omega)); have HZ9 := Lib.hid (HZA.out.grown hgrow9 (row_ge HOA.out.row (by omega))); have HW9 := Lib.hid (HBA.out.grown hgrow9 (by have := HS9.out; omega) (fun r hr => by have := row_lt HOA.out.row hr; omega)); clear HS9 HB8 HOA HOB HKA HZA HBA HO HO2 HK HZ HB hown9 hgrow9 k2 lk kf k0 k1 A1 A2 A3 A4 A5; have k0 := HK9.out.m0; have k1 := HK9.out.m1; have k2 := HK9.out.m2; have kf := HK9.out.frozen 2; have lk := HK9.out.lt)
    obtain ⟨hn9, hr9⟩ := rows2_cat HR9.out HA9.out HB9.out
    have k0 := HK9.out.m0
    have k1 := HK9.out.m1
    have k2 := HK9.out.m2
    have kf := HK9.out.frozen 2
    have lk := HK9.out.lt
    have hkk' : w.heap.size + 3 ≤ kk := by omega
    have HKS := Lib.hid (HK9.out.set3d (.slice av (z.length + y.length) ac))
    have HRS := Lib.hid (row_setb HR9.out HK9.out.is (by decide) (o := 2) (.slice av (z.length + y.length) ac))
    have HAS := Lib.hid (rows_setb HA9.out HK9.out.is (by decide) (o := 2) (.slice av (z.length + y.length) ac))
    have HBS := Lib.hid (rows_setb HB9.out HK9.out.is (by decide) (o := 2) (.slice av (z.length + y.length) ac))
    have HZS := Lib.hid (show Boxes (w9.setCell ⟨kk, 2, none⟩ (.slice av (z.length + y.length) ac)) (w.heap.size + 2) 27 #[.int .i64 0, .int .i64 0, .slice none 0 0] by
      unfold Boxes
      rw [Below.heap_setCell _ _ _ (w.heap.size + 2) (by show w.heap.size + 2 ≠ kk; omega)]
      exact HZ9.out)
    have HWS := Lib.hid (HW9.out.setCell (p := ⟨kk, 2, none⟩) (by show w.heap.size ≤ kk; omega) (.slice av (z.length + y.length) ac))
    clear HKS k0 k1 k2 kf lk HK9 HR9 HA9 HB9 HZ9 HW9
    have hr9s := (rows2_cat HRS.out HAS.out HBS.out).2
    have HSC := Lib.hid (small_cat HM.out HN.out)
    generalize w9.setCell ⟨kk, 2, none⟩ (.slice av (z.length + y.length) ac) = w10 at *
    by_cases h20 : z.length + y.length ≤ 20
    · refine (l03Told_ok p c av (z ++ y) (z.length + y.length) ac (by simp) _ hr9s HSC.out.lens ((mat_cat HM.out HN.out).2 h20)).mono ?_
      have HV := Lib.hid (fun (α : Type) (b r l o : α) => sk_ok ⟨HM.out, HN.out⟩ ⟨rfl, rfl⟩ h20 b r l o)
      rintro e w11 ⟨rfl, hb11⟩
      replace HRS := Lib.hid (row_step HRS.out hb11)
      replace HAS := Lib.hid (HAS.out.map fun _ _ k => row_step k hb11)
      replace HBS := Lib.hid (HBS.out.map fun _ _ k => row_step k hb11)
      replace HZS := Lib.hid (HZS.out.step hb11)
      replace HWS := Lib.hid (HWS.out.trans (hb11.mono HWS.out.size))
      have r0 := HZS.out.m0
      have r1 := HZS.out.m1
      have r2 := HZS.out.m2
      have f0 := HZS.out.frozen 0
      have f1 := HZS.out.frozen 1
      have f2 := HZS.out.frozen 2
      have lz := HZS.out.lt
      clear hb11 hr9 hr9s hn9
      go_wp2_with fail
      have q0 := HZS.out.is
      have q1 := q0.set (w.heap.size + 2) 0 (.int .i64 p)
      have q2 := q1.set (w.heap.size + 2) 1 (.int .i64 c)
      have R1 := row_setb (row_setb (row_setb HRS.out q0 (by decide) (o := 0) (.int .i64 p)) q1 (by decide) (o := 1) (.int .i64 c)) q2 (by decide) (o := 2) (.slice av (z.length + y.length) ac)
      have R2 := rows_setb (rows_setb (rows_setb HAS.out q0 (by decide) (o := 0) (.int .i64 p)) q1 (by decide) (o := 1) (.int .i64 c)) q2 (by decide) (o := 2) (.slice av (z.length + y.length) ac)
      have R3 := rows_setb (rows_setb (rows_setb HBS.out q0 (by decide) (o := 0) (.int .i64 p)) q1 (by decide) (o := 1) (.int .i64 c)) q2 (by decide) (o := 2) (.slice av (z.length + y.length) ac)
      refine bodyPost_ret (v := .tuple #[.agg #[.int .i64 p, .int .i64 c, .slice av (z.length + y.length) ac], .int .i64 0]) (by simp [results, Try.results25, go_sem, r0, r1, r2]) rfl ⟨⟨.slice av (z.length + y.length) ac, us ++ us2, by rw [HV.out, HV.out, HV.out], by rw [HV.out]; exact Own.mono3 ⟨by rw [List.length_append]; exact R1, R2.cat R3 (by omega) (fun u hu b e => by have := HUB.out u hu b e; omega)⟩ (by omega)⟩, (((HWS.out.setCell (p := ⟨w.heap.size + 2, 0, none⟩) (by show w.heap.size ≤ w.heap.size + 2; omega) _).setCell (p := ⟨w.heap.size + 2, 1, none⟩) (by show w.heap.size ≤ w.heap.size + 2; omega) _).setCell (p := ⟨w.heap.size + 2, 2, none⟩) (by show w.heap.size ≤ w.heap.size + 2; omega) _)⟩
    · refine (l03Told_no p c av (z ++ y) (z.length + y.length) ac (by simp) _ hr9s HSC.out.lens (fun k => h20 ((mat_cat HM.out HN.out).1 k))).mono ?_
      have HV := Lib.hid (fun (α : Type) (b r l o : α) => sk_lim ⟨HM.out, HN.out⟩ ⟨rfl, rfl⟩ h20 b r l o)
      rintro e w11 ⟨rfl, hb11⟩
      replace HZS := Lib.hid (HZS.out.step hb11)
      replace HWS := Lib.hid (HWS.out.trans (hb11.mono HWS.out.size))
      have r0 := HZS.out.m0
      have r1 := HZS.out.m1
      have r2 := HZS.out.m2
      have f0 := HZS.out.frozen 0
      have f1 := HZS.out.frozen 1
      have f2 := HZS.out.frozen 2
      have lz := HZS.out.lt
      clear hb11 hr9 hr9s hn9
      go_wp2_with fail
      refine bodyPost_ret (v := .tuple #[.agg #[.int .i64 0, .int .i64 0, .slice none 0 0], .int .i64 3]) (by simp [results, Try.results25, go_sem, r0, r1, r2]) rfl ⟨⟨.slice none 0 0, [], by rw [HV.out, HV.out, HV.out], by rw [HV.out]; exact Own.nil3 _ _⟩, (((HWS.out.setCell (p := ⟨w.heap.size + 2, 0, none⟩) (by show w.heap.size ≤ w.heap.size + 2; omega) _).setCell (p := ⟨w.heap.size + 2, 1, none⟩) (by show w.heap.size ≤ w.heap.size + 2; omega) _).setCell (p := ⟨w.heap.size + 2, 2, none⟩) (by show w.heap.size ≤ w.heap.size + 2; omega) _)⟩
end Go.Proofs.Ytcebphepfkpklaa

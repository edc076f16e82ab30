/- PowersOf of the model. -/
import Derived.Test.YtedjildahjefkaaPwi
import Derived.Test.YtedjildahjefkaaVm
namespace Go.Proofs.Ytedjildahjefkaa
open Go.RowKit Go.Deep
set_option linter.unusedVariables false

theorem Own.rowsq {W : World} {base n c : Nat} {a : Option Addr} {us : List Value} {zss : List (List Int)} (h : Own W base (.slice a n c) us zss) : Rows2 W a zss := by
  obtain ⟨a', c', e, hr⟩ := h.rows2
  cases e
  exact hr
/-- The first powers of a point. -/
def powTo (p : Int) (pts : List Int) (k j : Nat) : List Int := (List.range j).map fun c => powOf p (nth pts k) c
theorem powTo_len (p : Int) (pts : List Int) (k j : Nat) : (powTo p pts k j).length = j := by simp [powTo]
theorem powTo_snoc (p : Int) (pts : List Int) (k j : Nat) : powTo p pts k (j + 1) = powTo p pts k j ++ [powOf p (nth pts k) j] := by simp [powTo, List.range_succ]
theorem pows_take (p : Int) (pts : List Int) (n k : Nat) (h : k < pts.length) : (pows p pts n).take (k + 1) = (pows p pts n).take k ++ [powTo p pts k n] := by
  rw [take_snoc _ (by rw [pows_len]; exact h)]
  unfold pows powTo
  rw [tab_row _ _ _ h]

set_option maxRecDepth 100000 in
set_option maxHeartbeats 4000000 in
theorem l03Powers_any (p : Int) (ap : Option Addr) (pts : List Int) (cp cn : Nat) (w : World) (hp : Ints w ap pts) (hp2 : 2 ≤ p) (hp31 : p ≤ 31) (hl : pts.length ≤ 1000) (hcn : cn ≤ 1000) (he : Elems p pts) :
    Calls Try.prog 55 #[.int .i64 p, .slice ap pts.length cp, .int .i64 cn] w fun e w' => (∃ va vc us, e = .returned (.agg #[.int .i64 p, .int .i64 (cn : Int), .slice va pts.length vc]) ∧ Own w' w.heap.size (.slice va pts.length vc) us (pows p pts cn)) ∧ Below w.heap.size w w' := by
  have HI := Lib.hid hp
  have HE := Lib.hid he
  clear hp he
  go_enter Try.func55, Try.ntmps55
  go_wp2_with fail
  have hb1 := (Below.refl w.heap.size w).alloc (Nat.le_refl _) (.cells #[.int .i64 0, .int .i64 0, .slice none 0 0] 30)
  have hb2 := hb1.alloc (by simp) (.cells #[.int .i64 p, .int .i64 (cn : Int), .slice none 0 0] 30)
  have HY := Lib.hid (show Boxes ((w.alloc (.cells #[.int .i64 0, .int .i64 0, .slice none 0 0] 30)).alloc (.cells #[.int .i64 p, .int .i64 (cn : Int), .slice none 0 0] 30)) w.heap.size 30 #[.int .i64 0, .int .i64 0, .slice none 0 0] from Boxes.step (World.alloc_heap_new w _) ((Below.refl _ _).alloc (Nat.le_refl _) (.cells #[.int .i64 p, .int .i64 (cn : Int), .slice none 0 0] 30)))
  have HO := Lib.hid (show Boxes ((w.alloc (.cells #[.int .i64 0, .int .i64 0, .slice none 0 0] 30)).alloc (.cells #[.int .i64 p, .int .i64 (cn : Int), .slice none 0 0] 30)) (w.heap.size + 1) 30 #[.int .i64 p, .int .i64 (cn : Int), .slice none 0 0] by
    have h : Boxes ((w.alloc (.cells #[.int .i64 0, .int .i64 0, .slice none 0 0] 30)).alloc (.cells #[.int .i64 p, .int .i64 (cn : Int), .slice none 0 0] 30)) (w.alloc (.cells #[.int .i64 0, .int .i64 0, .slice none 0 0] 30)).heap.size 30 #[.int .i64 p, .int .i64 (cn : Int), .slice none 0 0] := World.alloc_heap_new _ _
    simp only [World.size_alloc] at h
    exact h)
  have HB2 := Lib.hid hb2
  have hs2 : ((w.alloc (.cells #[.int .i64 0, .int .i64 0, .slice none 0 0] 30)).alloc (.cells #[.int .i64 p, .int .i64 (cn : Int), .slice none 0 0] 30)).heap.size = w.heap.size + 2 := by simp
  generalize (w.alloc (.cells #[.int .i64 0, .int .i64 0, .slice none 0 0] 30)).alloc (.cells #[.int .i64 p, .int .i64 (cn : Int), .slice none 0 0] 30) = w2 at *
  generalize hoo : w.heap.size + 1 = oo at *
  have HOO := Lib.hid hoo
  clear hb1 hb2
  obtain ⟨i0, hi, hz0, hz1, hz2⟩ := info_parts Try.infoInt64
  obtain ⟨i1, ji, jz0, jz1, jz2⟩ := info_parts Try.infoInt64S
  go_loopw [8, 9, 10] (fun i q9 q10 wr => ∃ (k : Nat) (va : Option Addr) (vc : Nat) (us : List Value), k ≤ pts.length ∧ i = .int .i64 k ∧ Boxes wr oo 30 #[.int .i64 p, .int .i64 (cn : Int), .slice va k vc] ∧ Own wr (oo + 1) (.slice va k vc) us ((pows p pts cn).take k) ∧ Below oo w2 wr)
    (fun i _ _ _ => pts.length - (intOf i).toNat)
  case atStart => exact ⟨0, none, 0, [], Nat.zero_le _, rfl, HO.out, Own.nil3 _ _, Below.refl _ _⟩
  case round =>
    obtain ⟨k, va, vc, us, hk, rfl, hx, hown, hb⟩ := hrel
    have HXQ := Lib.hid hx
    have HOQ := Lib.hid hown
    have HBL := Lib.hid hb
    have hooq1 : oo + 1 ≤ wr.heap.size := hx.lt
    have HBW := Lib.hid (show Below w.heap.size w wr from HB2.out.trans (hb.mono (by omega)))
    clear hx hown hb
    obtain ⟨wo, rfl⟩ : ∃ wo : World, wo = wr := ⟨_, rfl⟩
    by_cases hlt : k < pts.length
    · have hi0 : (k : Int) < (pts.length : Int) := by omega
      go_wp2_with fail
      have HOW := Lib.hid (show OwnI (wo.alloc (.cells #[] 2)) wo.heap.size (.slice (some ⟨wo.heap.size, 0, none⟩) 0 0) (powTo p pts k 0) from World.ownsRow_made wo (base := wo.heap.size) (e := 2) (size := 1) #[] 0 (Nat.le_refl _) (by unfold maxLen; omega) rfl)
      have HBA := Lib.hid ((Below.refl wo.heap.size wo).alloc (Nat.le_refl _) (.cells #[] 2))
      generalize wo.alloc (.cells #[] 2) = w4 at *
      generalize (Value.slice (some ⟨wo.heap.size, 0, none⟩) 0 0) = v0 at *
      go_loopw [9, 10] (fun q9 i wi => ∃ (j : Nat), j ≤ cn ∧ i = .int .i64 j ∧ OwnI wi wo.heap.size q9 (powTo p pts k j) ∧ Below wo.heap.size wo wi)
        (fun _ i _ => cn - (intOf i).toNat)
      case atStart => exact ⟨0, Nat.zero_le _, rfl, HOW.out, HBA.out⟩
      case round =>
        obtain ⟨j, hj, rfl, ho, hb⟩ := hrel
        have HOI := Lib.hid ho
        have HBI := Lib.hid hb
        have hsz := hb.size
        clear ho hb HOW HBA
        by_cases hltj : j < cn
        · have hj0 : (j : Int) < (cn : Int) := by omega
          have hr3 : Ints wr ap pts := HI.out.below (HBW.out.trans (HBI.out.mono HBW.out.size)) (Nat.le_refl _)
          rcases hr3 with h | ⟨zb, zo, rfl, hzc⟩
          · rw [h] at hlt; exact absurd hlt (Nat.not_lt_zero _)
          have hel := hzc k hlt
          have HEL := Lib.hid (HE.out k hlt)
          have HCS := Lib.hid (powTo_snoc p pts k j)
          have hlj : (powTo p pts k j).length = j := powTo_len p pts k j
          have HLJ := Lib.hid hlj
          generalize nth pts k = x at hel HCS HEL
          clear hzc hlj
          go_wp2_with fail
          refine (l03Power_any p x j _ hp2 hp31 HEL.out (by omega)).mono ?_
          rintro e w' ⟨rfl, rfl⟩
          generalize powOf p x j = y at *
          go_wp2_with (at_builtin; refine wpList_append_own _ rfl _ _ 22 rfl wo.heap.size 2 i0 (.int .i64 0) 1 8 Try.underlying22 hi hz0 hz1 hz2 rfl (by decide) _ _ _ rfl (World.ownsRow.alloc HOI.out _) ⟨wr.heap.size, 0, none⟩ 1 1 [.int .i64 y] rfl rfl (cell_one_new _ _ _) (by simp [Value.oneCell']) (by rw [HLJ.out]; unfold maxLen; omega) (by rw [HLJ.out]; omega) (by simp; omega) ?_; intro v' w6 hown6 hgrow6 _)
          have H6 := Lib.hid (show OwnI w6 wo.heap.size v' (powTo p pts k (j + 1)) by
            rw [HCS.out]; unfold OwnI; rw [vals_snoc, List.length_append]; exact hown6)
          have HB6 := Lib.hid ((HBI.out.alloc hsz (.cells #[.int .i64 y] 2)).grown hgrow6 (by simp; omega) (fun q hq => (row_lt HOI.out hq).1))
          clear hown6 hgrow6
          go_wp2_with fail
          go_roundw
          case rel => exact ⟨j + 1, by omega, by go_num, H6.out, HB6.out⟩
          case measure => simp [intOf]; omega
        · have HX := Lib.hid (show j = cn by omega)
          have hx1 := HXQ.out.step HBI.out
          have e2 := hx1.m2
          have f2 := hx1.frozen 2
          have hl1 := hx1.lt
          have hx1w : oo < wr.heap.size + 1 := by omega
          have HX1 := Lib.hid hx1
          have HOI2 := Lib.hid (show OwnI wr wo.heap.size u9 (powTo p pts k cn) by have := HOI.out; rw [HX.out] at this; exact this)
          obtain ⟨ua, uc, hu9⟩ := rowForm HOI2.out
          rw [powTo_len] at hu9
          subst hu9
          have HRN := Lib.hid (HOQ.out.rows.snoc HBI.out HOI2.out hooq1)
          have HOG := Lib.hid (row_step HOQ.out.row HBI.out)
          have hlk : ((pows p pts cn).take k).length = k := by rw [List.length_take, pows_len]; omega
          have HLK := Lib.hid hlk
          have HTK := Lib.hid (pows_take p pts cn k hlt)
          clear hx1 hlk HOI
          go_wp2_with (at_builtin; refine wpList_append_own _ rfl _ _ 26 rfl (oo + 1) 22 i1 (.slice none 0 0) 1 24 Try.underlying26 ji jz0 jz1 jz2 rfl (by decide) _ _ us rfl (World.ownsRow.alloc HOG.out _) ⟨wr.heap.size, 0, none⟩ 1 1 [(.slice ua cn uc)] rfl rfl (cell_one_new _ _ _) (by simp [Value.oneCell']) (by rw [HLK.out]; unfold maxLen; omega) (by rw [HLK.out]; omega) (by simp; omega) ?_; intro v' w7 hown7 hgrow7 _; rw [HLK.out] at hown7; obtain ⟨va', vc', rfl⟩ := rowForm hown7; have hxx := (HX1.out.step ((Below.refl _ _).alloc (Nat.le_refl _) (.cells #[(.slice ua cn uc)] 22))).grown hgrow7 (row_ge HOG.out (Nat.lt_succ_self _)); have g2 := hxx.m2; have gf := hxx.frozen 2)
          have hz7 : oo < w7.heap.size := hxx.lt
          have HX7 := Lib.hid hxx
          have HO7 := Lib.hid hown7
          have HG7 := Lib.hid hgrow7
          clear hxx hown7 hgrow7
          go_wp2_with fail
          go_roundw
          case rel =>
            refine ⟨k + 1, va', vc', us ++ [(.slice ua cn uc)], by omega, by go_num, HX7.out.set3d _, ⟨?_, ?_⟩, ?_⟩
            · have := row_set (u := .slice va' (k + 1) vc') (o := 2) HO7.out (Nat.lt_succ_self oo)
              rw [HTK.out, List.length_append, HLK.out]
              exact this
            · rw [HTK.out]
              refine (HRN.out.map (W' := w7) fun u zs ho => row_other (World.ownsRow.alloc ho _) (World.ownsRow.alloc HOG.out _) HG7.out (by decide)).map fun u zs ho => row_set ho (Nat.lt_succ_self oo) _
            · refine Below.setCell (p := ⟨oo, 2, none⟩) ?_ (Nat.le_refl oo) _
              exact ((HBL.out.trans (HBI.out.mono (by omega))).alloc (by omega) _).grown HG7.out (by simp; omega) (fun q hq => by have := row_lt HOG.out hq; omega)
          case measure => simp [intOf]; omega
    · have HX := Lib.hid (show k = pts.length by omega)
      have ht : (pows p pts cn).take k = pows p pts cn := by rw [HX.out]; exact List.take_of_length_le (by rw [pows_len]; omega)
      have ho := HOQ.out
      rw [ht, HX.out] at ho
      have c0 := HXQ.out.m0
      have c1 := HXQ.out.m1
      have c2 := HXQ.out.m2
      rw [HX.out] at c2
      have r0 := (HBL.out.cell (p := ⟨w.heap.size, 0, none⟩) (show w.heap.size < oo by omega)).trans HY.out.m0
      have r1 := (HBL.out.cell (p := ⟨w.heap.size, 1, none⟩) (show w.heap.size < oo by omega)).trans HY.out.m1
      have r2 := (HBL.out.cell (p := ⟨w.heap.size, 2, none⟩) (show w.heap.size < oo by omega)).trans HY.out.m2
      have s0 := (HBL.out.frozen (p := ⟨w.heap.size, 0, none⟩) (show w.heap.size < oo by omega)).trans (HY.out.frozen 0)
      have s1 := (HBL.out.frozen (p := ⟨w.heap.size, 1, none⟩) (show w.heap.size < oo by omega)).trans (HY.out.frozen 1)
      have s2 := (HBL.out.frozen (p := ⟨w.heap.size, 2, none⟩) (show w.heap.size < oo by omega)).trans (HY.out.frozen 2)
      have HO9 := Lib.hid ho
      clear ho ht
      go_wp2_with fail
      refine bodyPost_ret (v := .agg #[.int .i64 p, .int .i64 (cn : Int), .slice va pts.length vc]) (by simp [results, Try.results55, go_sem, r0, r1, r2]) rfl ⟨⟨va, vc, us, rfl, ?_⟩, ?_⟩
      · have h9 := HOO.out
        exact ((((HO9.out.setCell3 (p := ⟨w.heap.size, 0, none⟩) (by show w.heap.size < oo + 1; omega) _).setCell3 (p := ⟨w.heap.size, 1, none⟩) (by show w.heap.size < oo + 1; omega) _).setCell3 (p := ⟨w.heap.size, 2, none⟩) (by show w.heap.size < oo + 1; omega) _)).mono3 (by omega)
      · exact (((HBW.out.setCell (p := ⟨w.heap.size, 0, none⟩) (Nat.le_refl _) _).setCell (p := ⟨w.heap.size, 1, none⟩) (Nat.le_refl _) _).setCell (p := ⟨w.heap.size, 2, none⟩) (Nat.le_refl _) _)
theorem l03PowersI_any (p cols : Int) (ap : Option Addr) (pts : List Int) (cp cn : Nat) (w : World) (hc : cols = (cn : Int)) (hp : Ints w ap pts) (hp2 : 2 ≤ p) (hp31 : p ≤ 31) (hl : pts.length ≤ 1000) (hcn : cn ≤ 1000) (he : Elems p pts) :
    Calls Try.prog 55 #[.int .i64 p, .slice ap pts.length cp, .int .i64 cols] w fun e w' => (∃ va vc us, e = .returned (.agg #[.int .i64 p, .int .i64 cols, .slice va pts.length vc]) ∧ Own w' w.heap.size (.slice va pts.length vc) us (pows p pts cn)) ∧ Below w.heap.size w w' := by
  subst hc; exact l03Powers_any p ap pts cp cn w hp hp2 hp31 hl hcn he

set_option maxRecDepth 100000 in
set_option maxHeartbeats 4000000 in
theorem specPw_any (p : Int) (ap : Option Addr) (pts : List Int) (cp : Nat) (cols : Int) (w : World) (hp : Ints w ap pts) (hl : pts.length ≤ 9223372036854775807) :
    Calls Try.prog 22 #[.int .i64 p, .slice ap pts.length cp, .int .i64 cols] w (GivesMX w (pwSel p pts cols 0 p) (pwSel p pts cols 0 cols) (pwSel p pts cols [] (pows p pts cols.toNat)) (pwSel p pts cols 2 0)) := by
  by_cases hpr : Prm p
  case neg =>
    have HT := Lib.hid (tell_false hpr)
    have HV := Lib.hid (fun (α : Type) (b o : α) => pw_bad (p := p) (pts := pts) (cols := cols) (fun k => hpr k.1) b o)
    clear hpr
    have HI := Lib.hid hp
    clear hp
    go_enter Try.func22, Try.ntmps22
    go_wp2_with fail
    have hb1 := (Below.refl w.heap.size w).alloc (Nat.le_refl _) (.cells #[.int .i64 0, .int .i64 0, .slice none 0 0] 30)
    have HZ := Lib.hid (show Boxes (w.alloc (.cells #[.int .i64 0, .int .i64 0, .slice none 0 0] 30)) w.heap.size 30 #[.int .i64 0, .int .i64 0, .slice none 0 0] from World.alloc_heap_new _ _)
    have HB := Lib.hid hb1
    have hs1 : (w.alloc (.cells #[.int .i64 0, .int .i64 0, .slice none 0 0] 30)).heap.size = w.heap.size + 1 := by simp
    generalize w.alloc (.cells #[.int .i64 0, .int .i64 0, .slice none 0 0] 30) = w1 at *
    have r0 := HZ.out.m0
    have r1 := HZ.out.m1
    have r2 := HZ.out.m2
    have f0 := HZ.out.frozen 0
    have f1 := HZ.out.frozen 1
    have f2 := HZ.out.frozen 2
    have lz := HZ.out.lt
    have HI1 := Lib.hid (HI.out.below hb1 (Nat.le_refl _))
    clear hb1
    refine (specPrime_any p _).mono ?_
    rintro e w' ⟨rfl, rfl⟩
    rw [HT.out]
    go_wp2_with fail
    refine bodyPost_ret (v := .tuple #[.agg #[.int .i64 0, .int .i64 0, .slice none 0 0], .int .i64 2]) (by simp [results, Try.results22, go_sem, r0, r1, r2]) rfl ⟨⟨none, 0, by rw [HV.out, HV.out, HV.out, HV.out]; rfl, by rw [HV.out]; exact .inl rfl⟩, (((HB.out.setCell (p := ⟨w.heap.size, 0, none⟩) (Nat.le_refl _) _).setCell (p := ⟨w.heap.size, 1, none⟩) (Nat.le_refl _) _).setCell (p := ⟨w.heap.size, 2, none⟩) (Nat.le_refl _) _)⟩
  have HT := Lib.hid (tell_true hpr)
  have HP := Lib.hid hpr
  clear hpr
  by_cases h20 : (20 : Int) < (pts.length : Int)
  · have HV := Lib.hid (fun (α : Type) (b o : α) => pw_bad (p := p) (pts := pts) (cols := cols) (fun k => by have := k.2.1; omega) b o)
    have HI := Lib.hid hp
    clear hp
    go_enter Try.func22, Try.ntmps22
    go_wp2_with fail
    have hb1 := (Below.refl w.heap.size w).alloc (Nat.le_refl _) (.cells #[.int .i64 0, .int .i64 0, .slice none 0 0] 30)
    have HZ := Lib.hid (show Boxes (w.alloc (.cells #[.int .i64 0, .int .i64 0, .slice none 0 0] 30)) w.heap.size 30 #[.int .i64 0, .int .i64 0, .slice none 0 0] from World.alloc_heap_new _ _)
    have HB := Lib.hid hb1
    have hs1 : (w.alloc (.cells #[.int .i64 0, .int .i64 0, .slice none 0 0] 30)).heap.size = w.heap.size + 1 := by simp
    generalize w.alloc (.cells #[.int .i64 0, .int .i64 0, .slice none 0 0] 30) = w1 at *
    have r0 := HZ.out.m0
    have r1 := HZ.out.m1
    have r2 := HZ.out.m2
    have f0 := HZ.out.frozen 0
    have f1 := HZ.out.frozen 1
    have f2 := HZ.out.frozen 2
    have lz := HZ.out.lt
    have HI1 := Lib.hid (HI.out.below hb1 (Nat.le_refl _))
    clear hb1
    refine (specPrime_any p _).mono ?_
    rintro e w' ⟨rfl, rfl⟩
    rw [HT.out]
    go_wp2_with fail
    refine bodyPost_ret (v := .tuple #[.agg #[.int .i64 0, .int .i64 0, .slice none 0 0], .int .i64 2]) (by simp [results, Try.results22, go_sem, r0, r1, r2]) rfl ⟨⟨none, 0, by rw [HV.out, HV.out, HV.out, HV.out]; rfl, by rw [HV.out]; exact .inl rfl⟩, (((HB.out.setCell (p := ⟨w.heap.size, 0, none⟩) (Nat.le_refl _) _).setCell (p := ⟨w.heap.size, 1, none⟩) (Nat.le_refl _) _).setCell (p := ⟨w.heap.size, 2, none⟩) (Nat.le_refl _) _)⟩
  have h20' : (pts.length : Int) ≤ 20 := by omega
  by_cases hc : 0 ≤ cols ∧ cols ≤ 12
  case neg =>
    have t1 := Lib.hid (show (decide (0 ≤ cols) && decide (cols ≤ 12)) = false by by_cases q1 : 0 ≤ cols <;> by_cases q2 : cols ≤ 12 <;> simp [q1, q2] <;> omega)
    have HV := Lib.hid (fun (α : Type) (b o : α) => pw_bad (p := p) (pts := pts) (cols := cols) (fun k => hc k.2.2.1) b o)
    clear hc
    have HI := Lib.hid hp
    clear hp
    go_enter Try.func22, Try.ntmps22
    go_wp2_with fail
    have hb1 := (Below.refl w.heap.size w).alloc (Nat.le_refl _) (.cells #[.int .i64 0, .int .i64 0, .slice none 0 0] 30)
    have HZ := Lib.hid (show Boxes (w.alloc (.cells #[.int .i64 0, .int .i64 0, .slice none 0 0] 30)) w.heap.size 30 #[.int .i64 0, .int .i64 0, .slice none 0 0] from World.alloc_heap_new _ _)
    have HB := Lib.hid hb1
    have hs1 : (w.alloc (.cells #[.int .i64 0, .int .i64 0, .slice none 0 0] 30)).heap.size = w.heap.size + 1 := by simp
    generalize w.alloc (.cells #[.int .i64 0, .int .i64 0, .slice none 0 0] 30) = w1 at *
    have r0 := HZ.out.m0
    have r1 := HZ.out.m1
    have r2 := HZ.out.m2
    have f0 := HZ.out.frozen 0
    have f1 := HZ.out.frozen 1
    have f2 := HZ.out.frozen 2
    have lz := HZ.out.lt
    have HI1 := Lib.hid (HI.out.below hb1 (Nat.le_refl _))
    clear hb1
    refine (specPrime_any p _).mono ?_
    rintro e w' ⟨rfl, rfl⟩
    rw [HT.out]
    go_wp2_with fail
    refine (l00In_val _ 0 12 false _ t1.out).mono ?_
    rintro e w' ⟨rfl, rfl⟩
    go_wp2_with fail
    refine bodyPost_ret (v := .tuple #[.agg #[.int .i64 0, .int .i64 0, .slice none 0 0], .int .i64 2]) (by simp [results, Try.results22, go_sem, r0, r1, r2]) rfl ⟨⟨none, 0, by rw [HV.out, HV.out, HV.out, HV.out]; rfl, by rw [HV.out]; exact .inl rfl⟩, (((HB.out.setCell (p := ⟨w.heap.size, 0, none⟩) (Nat.le_refl _) _).setCell (p := ⟨w.heap.size, 1, none⟩) (Nat.le_refl _) _).setCell (p := ⟨w.heap.size, 2, none⟩) (Nat.le_refl _) _)⟩
  have t1 := Lib.hid (show (decide (0 ≤ cols) && decide (cols ≤ 12)) = true by simp; omega)
  have HC := Lib.hid hc
  clear hc
  by_cases he : Elems p pts
  case neg =>
    have HU := Lib.hid (tell_false (p := RowOk p pts.length pts) (fun k => he k.2))
    have HV := Lib.hid (fun (α : Type) (b o : α) => pw_bad (p := p) (pts := pts) (cols := cols) (fun k => he k.2.2.2) b o)
    clear he
    have HI := Lib.hid hp
    clear hp
    go_enter Try.func22, Try.ntmps22
    go_wp2_with fail
    have hb1 := (Below.refl w.heap.size w).alloc (Nat.le_refl _) (.cells #[.int .i64 0, .int .i64 0, .slice none 0 0] 30)
    have HZ := Lib.hid (show Boxes (w.alloc (.cells #[.int .i64 0, .int .i64 0, .slice none 0 0] 30)) w.heap.size 30 #[.int .i64 0, .int .i64 0, .slice none 0 0] from World.alloc_heap_new _ _)
    have HB := Lib.hid hb1
    have hs1 : (w.alloc (.cells #[.int .i64 0, .int .i64 0, .slice none 0 0] 30)).heap.size = w.heap.size + 1 := by simp
    generalize w.alloc (.cells #[.int .i64 0, .int .i64 0, .slice none 0 0] 30) = w1 at *
    have r0 := HZ.out.m0
    have r1 := HZ.out.m1
    have r2 := HZ.out.m2
    have f0 := HZ.out.frozen 0
    have f1 := HZ.out.frozen 1
    have f2 := HZ.out.frozen 2
    have lz := HZ.out.lt
    have HI1 := Lib.hid (HI.out.below hb1 (Nat.le_refl _))
    clear hb1
    refine (specPrime_any p _).mono ?_
    rintro e w' ⟨rfl, rfl⟩
    rw [HT.out]
    go_wp2_with fail
    refine (l00In_val _ 0 12 true _ t1.out).mono ?_
    rintro e w' ⟨rfl, rfl⟩
    go_wp2_with fail
    refine (l03Row_any p pts.length ap pts cp _ HI1.out hl HP.out.1 HP.out.2.1).mono ?_
    rintro e w' ⟨rfl, rfl⟩
    rw [HU.out]
    go_wp2_with fail
    refine bodyPost_ret (v := .tuple #[.agg #[.int .i64 0, .int .i64 0, .slice none 0 0], .int .i64 2]) (by simp [results, Try.results22, go_sem, r0, r1, r2]) rfl ⟨⟨none, 0, by rw [HV.out, HV.out, HV.out, HV.out]; rfl, by rw [HV.out]; exact .inl rfl⟩, (((HB.out.setCell (p := ⟨w.heap.size, 0, none⟩) (Nat.le_refl _) _).setCell (p := ⟨w.heap.size, 1, none⟩) (Nat.le_refl _) _).setCell (p := ⟨w.heap.size, 2, none⟩) (Nat.le_refl _) _)⟩
  have HU := Lib.hid (tell_true (p := RowOk p pts.length pts) ⟨rfl, he⟩)
  have HOK := Lib.hid (show PwOk p pts cols from ⟨HP.out, by omega, HC.out, he⟩)
  have HV := Lib.hid (fun (α : Type) (b o : α) => pw_ok HOK.out b o)
  clear he
  have HI := Lib.hid hp
  clear hp
  go_enter Try.func22, Try.ntmps22
  go_wp2_with fail
  have hb1 := (Below.refl w.heap.size w).alloc (Nat.le_refl _) (.cells #[.int .i64 0, .int .i64 0, .slice none 0 0] 30)
  have HZ := Lib.hid (show Boxes (w.alloc (.cells #[.int .i64 0, .int .i64 0, .slice none 0 0] 30)) w.heap.size 30 #[.int .i64 0, .int .i64 0, .slice none 0 0] from World.alloc_heap_new _ _)
  have HB := Lib.hid hb1
  have hs1 : (w.alloc (.cells #[.int .i64 0, .int .i64 0, .slice none 0 0] 30)).heap.size = w.heap.size + 1 := by simp
  generalize w.alloc (.cells #[.int .i64 0, .int .i64 0, .slice none 0 0] 30) = w1 at *
  have r0 := HZ.out.m0
  have r1 := HZ.out.m1
  have r2 := HZ.out.m2
  have f0 := HZ.out.frozen 0
  have f1 := HZ.out.frozen 1
  have f2 := HZ.out.frozen 2
  have lz := HZ.out.lt
  have HI1 := Lib.hid (HI.out.below hb1 (Nat.le_refl _))
  clear hb1
  refine (specPrime_any p _).mono ?_
  rintro e w' ⟨rfl, rfl⟩
  rw [HT.out]
  go_wp2_with fail
  refine (l00In_val _ 0 12 true _ t1.out).mono ?_
  rintro e w' ⟨rfl, rfl⟩
  go_wp2_with fail
  refine (l03Row_any p pts.length ap pts cp _ HI1.out hl HP.out.1 HP.out.2.1).mono ?_
  rintro e w' ⟨rfl, rfl⟩
  rw [HU.out]
  go_wp2_with fail
  refine (l03PowersI_any p cols ap pts cp cols.toNat w1 (by have := HC.out.1; omega) HI1.out HP.out.1 HP.out.2.1 (by omega) (by have := HC.out.2; omega) HOK.out.2.2.2).mono ?_
  clear r0 r1 r2 f0 f1 f2 lz
  rintro e w2 ⟨⟨va, vc, us, rfl, ho⟩, hb2⟩
  have HO2 := Lib.hid ho
  have hl1 := HZ.out.lt
  replace HZ := Lib.hid (HZ.out.step hb2)
  replace HB := Lib.hid (HB.out.trans (hb2.mono (by omega)))
  have r0 := HZ.out.m0
  have r1 := HZ.out.m1
  have r2 := HZ.out.m2
  have f0 := HZ.out.frozen 0
  have f1 := HZ.out.frozen 1
  have f2 := HZ.out.frozen 2
  have lz := HZ.out.lt
  clear ho hb2
  go_wp2_with fail
  refine bodyPost_ret (v := .tuple #[.agg #[.int .i64 p, .int .i64 cols, .slice va pts.length vc], .int .i64 0]) (by simp [results, Try.results22, go_sem, r0, r1, r2]) rfl ⟨⟨va, vc, by rw [HV.out, HV.out, HV.out, HV.out, pows_len], ?_⟩, ?_⟩
  · rw [HV.out]
    exact ((((HO2.out.setCell3 (p := ⟨w.heap.size, 0, none⟩) (by show w.heap.size < w1.heap.size; omega) _).setCell3 (p := ⟨w.heap.size, 1, none⟩) (by show w.heap.size < w1.heap.size; omega) _).setCell3 (p := ⟨w.heap.size, 2, none⟩) (by show w.heap.size < w1.heap.size; omega) _)).rowsq
  · exact (((HB.out.setCell (p := ⟨w.heap.size, 0, none⟩) (Nat.le_refl _) _).setCell (p := ⟨w.heap.size, 1, none⟩) (Nat.le_refl _) _).setCell (p := ⟨w.heap.size, 2, none⟩) (Nat.le_refl _) _)
end Go.Proofs.Ytedjildahjefkaa

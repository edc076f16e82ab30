/- l03Beside of the model. -/
import Derived.Test.YtnebkhelobpkpaaSo0
import Derived.Test.YtnebkhelobpkpaaOw
namespace Go.Proofs.Ytnebkhelobpkpaa
open Go.RowKit Go.Deep
set_option linter.unusedVariables false

set_option maxRecDepth 100000 in
set_option maxHeartbeats 4000000 in
theorem l03Beside_any (q0 : Nat) (p : Int) (cn : Nat) (a : Option Addr) (z : List (List Int)) (ca : Nat) (ac : Option Addr) (cs : List (List Int)) (cc : Nat) (w : World) (hbx : Boxes w q0 46 #[.int .i64 p, .int .i64 (cn : Int), .slice a z.length ca]) (hr : Rows2 w a z) (hz : z.length ≤ 1000) (hcn : cn ≤ 1000) (hrow : ∀ r, r < z.length → (nthL z r).length = cn) (hrc : Rows2 w ac cs) (hcl : cs.length ≤ 1000) (hcol : ∀ q, q < cs.length → (nthL cs q).length = z.length) :
    Calls Try.prog 123 #[.pointer (some ⟨q0, 0, none⟩), .slice ac cs.length cc] w fun e w' => (∃ va vc us, e = .returned (.agg #[.int .i64 p, .int .i64 ((cn : Int) + (cs.length : Int)), .slice va z.length vc]) ∧ Own w' w.heap.size (.slice va z.length vc) us (besA z cs z.length)) ∧ Below w.heap.size w w' := by
  have HR := Lib.hid hr
  have HRW := Lib.hid hrow
  have HRC := Lib.hid hrc
  have HCL := Lib.hid hcol
  have HQ := Lib.hid hbx
  have hq0 := hbx.lt
  clear hr hbx hrow hrc hcol
  go_enter Try.func123, Try.ntmps123
  go_wp2_with fail
  have hb1 := (Below.refl w.heap.size w).alloc (Nat.le_refl _) (.cells #[.int .i64 0, .int .i64 0, .slice none 0 0] 46)
  have HY := Lib.hid (show Boxes (w.alloc (.cells #[.int .i64 0, .int .i64 0, .slice none 0 0] 46)) w.heap.size 46 #[.int .i64 0, .int .i64 0, .slice none 0 0] from World.alloc_heap_new _ _)
  have HQ1 := Lib.hid (HQ.out.step hb1)
  have HB1 := Lib.hid hb1
  have hs1 : (w.alloc (.cells #[.int .i64 0, .int .i64 0, .slice none 0 0] 46)).heap.size = w.heap.size + 1 := by simp
  generalize w.alloc (.cells #[.int .i64 0, .int .i64 0, .slice none 0 0] 46) = w1 at *
  have x0 := HQ1.out.m0
  have x1 := HQ1.out.m1
  have x2 := HQ1.out.m2
  have hq1 := HQ1.out.lt
  clear hb1 HQ
  go_region
  have hb2 := ((Below.refl (w.heap.size + 1) w1).alloc (Nat.le_of_eq hs1.symm) (.cells #[.int .i64 p, .int .i64 ((cn : Int) + (cs.length : Int)), .slice none 0 0] 46)).drew
  have hbo : Boxes (w1.alloc (.cells #[.int .i64 p, .int .i64 ((cn : Int) + (cs.length : Int)), .slice none 0 0] 46)).drew (w.heap.size + 1) 46 #[.int .i64 p, .int .i64 ((cn : Int) + (cs.length : Int)), .slice none 0 0] := by
    have : Boxes (w1.alloc (.cells #[.int .i64 p, .int .i64 ((cn : Int) + (cs.length : Int)), .slice none 0 0] 46)) w1.heap.size 46 #[.int .i64 p, .int .i64 ((cn : Int) + (cs.length : Int)), .slice none 0 0] := World.alloc_heap_new _ _
    rw [hs1] at this
    exact this.step (drew_step _)
  generalize (w1.alloc (.cells #[.int .i64 p, .int .i64 ((cn : Int) + (cs.length : Int)), .slice none 0 0] 46)).drew = w2 at *
  have HB2 := Lib.hid hb2
  have HO := Lib.hid hbo
  have HY2 := Lib.hid (show Boxes w2 w.heap.size 46 #[.int .i64 0, .int .i64 0, .slice none 0 0] from (hb2.block w.heap.size (by omega)).trans HY.out)
  have HQ2 := Lib.hid (show Boxes w2 q0 46 #[.int .i64 p, .int .i64 (cn : Int), .slice a z.length ca] from (hb2.block q0 (by omega)).trans HQ1.out)
  have hs2 : w.heap.size + 2 ≤ w2.heap.size := hbo.lt
  generalize hoo : w.heap.size + 1 = oo at *
  have HOO := Lib.hid hoo
  clear hb2 hbo x0 x1 x2
  obtain ⟨i0, hi, hz0, hz1, hz2⟩ := info_parts Try.infoInt64
  obtain ⟨i1, ji, jz0, jz1, jz2⟩ := info_parts Try.infoInt64S
  go_wp2_with fail
  go_loopw [6, 7, 8] (fun i q5 q6 wr => ∃ (k : Nat) (va : Option Addr) (vc : Nat) (us : List Value), k ≤ z.length ∧ i = .int .i64 k ∧ Boxes wr oo 46 #[.int .i64 p, .int .i64 ((cn : Int) + (cs.length : Int)), .slice va k vc] ∧ Own wr (oo + 1) (.slice va k vc) us (besA z cs k) ∧ Below oo w2 wr)
    (fun i _ _ _ => z.length - (intOf i).toNat)
  case atStart => exact ⟨0, none, 0, [], Nat.zero_le _, rfl, HO.out, Own.nil3 _ _, Below.refl _ _⟩
  case round =>
    obtain ⟨k, va, vc, us, hk, rfl, hx, hown, hb⟩ := hrel
    have HXQ := Lib.hid hx
    have HOQ := Lib.hid hown
    have HBL := Lib.hid hb
    have hooq1 : oo + 1 ≤ wr.heap.size := hx.lt
    have bm2 := (hb.cell (p := ⟨q0, 2, none⟩) (show q0 < oo by omega)).trans HQ2.out.m2
    have HBW := Lib.hid (show Below w.heap.size w wr from HB1.out.trans ((HB2.out.mono (by omega)).trans (hb.mono (by omega))))
    clear hx hown hb
    obtain ⟨wo, rfl⟩ : ∃ wo : World, wo = wr := ⟨_, rfl⟩
    by_cases hlt : k < z.length
    · have hi0 : (k : Int) < (z.length : Int) := by omega
      have hr3 : Rows2 wo a z := HR.out.below HBW.out (Nat.le_refl _)
      rcases hr3 with h | ⟨zb, zo, rfl, hzc⟩
      · rw [h] at hlt; exact absurd hlt (Nat.not_lt_zero _)
      obtain ⟨ai, ci, hrow, hints⟩ := hzc k hlt
      have HIN := Lib.hid hints
      have hrl : (nthL z k).length ≤ 1048576 := by rw [HRW.out k hlt]; omega
      clear hzc hints
      go_wp2_with fail
      refine (l00Own_any ai (nthL z k) ci wo HIN.out hrl).mono ?_
      rintro e w4 ⟨⟨v0, rfl, hv0⟩, hb4⟩
      have HOW := Lib.hid (show OwnI w4 wo.heap.size v0 (besR z cs k 0) by rw [besR_zero]; exact hv0)
      have HBA := Lib.hid hb4
      clear hv0 hb4 hrl hrow bm2
      go_wp2_with fail
      go_loopw [7, 8] (fun q5 i wi => ∃ (j : Nat), j ≤ cs.length ∧ i = .int .i64 j ∧ OwnI wi wo.heap.size q5 (besR z cs k j) ∧ Below wo.heap.size wo wi)
        (fun _ i _ => cs.length - (intOf i).toNat)
      case atStart => exact ⟨0, Nat.zero_le _, rfl, HOW.out, HBA.out⟩
      case round =>
        obtain ⟨j, hj, rfl, ho, hb⟩ := hrel
        have HOI := Lib.hid ho
        have HBI := Lib.hid hb
        have hsz := hb.size
        clear ho hb HOW HBA
        by_cases hltj : j < cs.length
        · have hr3 : Rows2 wr ac cs := HRC.out.below (HBW.out.trans (HBI.out.mono HBW.out.size)) (Nat.le_refl _)
          rcases hr3 with h | ⟨zb, zo, rfl, hzc⟩
          · rw [h] at hltj; exact absurd hltj (Nat.not_lt_zero _)
          obtain ⟨bi, di, hrow, hints⟩ := hzc j hltj
          have hlen := HCL.out j hltj
          have hj0 : (j : Int) < (cs.length : Int) := by omega
          rcases hints with h | ⟨b2, o2, rfl, hc2⟩
          · exact absurd (show (nthL cs j).length = 0 by rw [h]; rfl) (by omega)
          have hel := hc2 k (by omega)
          rw [hlen] at hrow
          have HCS := Lib.hid (besR_snoc z cs k j)
          generalize nth (nthL cs j) k = x at hel HCS
          have hlj : (besR z cs k j).length = cn + j := by rw [besR_len, HRW.out k hlt]
          have HLJ := Lib.hid hlj
          clear hzc hc2 hlj
          go_wp2_with (at_builtin; refine wpList_append_own _ rfl _ _ 35 rfl wo.heap.size 2 i0 (.int .i64 0) 1 8 Try.underlying35 hi hz0 hz1 hz2 rfl (by decide) _ _ _ rfl (World.ownsRow.alloc HOI.out _) ⟨wr.heap.size, 0, none⟩ 1 1 [.int .i64 x] rfl rfl (cell_one_new _ _ _) (by simp [Value.oneCell']) (by rw [HLJ.out]; unfold maxLen; omega) (by rw [HLJ.out]; omega) (by simp; omega) ?_; intro v' w6 hown6 hgrow6 _)
          have H6 := Lib.hid (show OwnI w6 wo.heap.size v' (besR z cs k (j + 1)) by
            rw [HCS.out]; unfold OwnI; rw [vals_snoc, List.length_append]; exact hown6)
          have HB6 := Lib.hid ((HBI.out.alloc hsz (.cells #[.int .i64 x] 2)).grown hgrow6 (by simp; omega) (fun q hq => (row_lt HOI.out hq).1))
          clear hown6 hgrow6
          go_wp2_with fail
          go_roundw
          case rel => exact ⟨j + 1, by omega, by go_num, H6.out, HB6.out⟩
          case measure => simp [intOf]; omega
        · have HE := Lib.hid (show j = cs.length by omega)
          have hx1 := HXQ.out.step HBI.out
          have e2 := hx1.m2
          have f2 := hx1.frozen 2
          have hl1 := hx1.lt
          have hx1w : oo < wr.heap.size + 1 := by omega
          have HX1 := Lib.hid hx1
          have HOI2 := Lib.hid (show OwnI wr wo.heap.size u7 (besR z cs k cs.length) by have := HOI.out; rw [HE.out] at this; exact this)
          obtain ⟨ua, uc, hu5⟩ := rowForm HOI2.out
          rw [besR_len, HRW.out k hlt] at hu5
          subst hu5
          have HRN := Lib.hid (HOQ.out.rows.snoc HBI.out HOI2.out hooq1)
          have HOG := Lib.hid (row_step HOQ.out.row HBI.out)
          have hlk : (besA z cs k).length = k := besA_len z cs k
          have HLK := Lib.hid hlk
          have HTK := Lib.hid (besA_snoc z cs k)
          clear hx1 hlk HOI
          go_wp2_with (at_builtin; refine wpList_append_own _ rfl _ _ 36 rfl (oo + 1) 35 i1 (.slice none 0 0) 1 24 Try.underlying36 ji jz0 jz1 jz2 rfl (by decide) _ _ us rfl (World.ownsRow.alloc HOG.out _) ⟨wr.heap.size, 0, none⟩ 1 1 [(.slice ua (cn + cs.length) uc)] rfl rfl (cell_one_new _ _ _) (by simp [Value.oneCell']) (by rw [HLK.out]; unfold maxLen; omega) (by rw [HLK.out]; omega) (by simp; omega) ?_; intro v' w7 hown7 hgrow7 _; rw [HLK.out] at hown7; obtain ⟨va', vc', rfl⟩ := rowForm hown7; have hxx := (HX1.out.step ((Below.refl _ _).alloc (Nat.le_refl _) (.cells #[(.slice ua (cn + cs.length) uc)] 35))).grown hgrow7 (row_ge HOG.out (Nat.lt_succ_self _)); have g2 := hxx.m2; have gf := hxx.frozen 2)
          have hz7 : oo < w7.heap.size := hxx.lt
          have HX7 := Lib.hid hxx
          have HO7 := Lib.hid hown7
          have HG7 := Lib.hid hgrow7
          clear hxx hown7 hgrow7
          go_wp2_with fail
          go_roundw
          case rel =>
            refine ⟨k + 1, va', vc', us ++ [(.slice ua (cn + cs.length) uc)], by omega, by go_num, HX7.out.set3d _, ⟨?_, ?_⟩, ?_⟩
            · have := row_set (u := .slice va' (k + 1) vc') (o := 2) HO7.out (Nat.lt_succ_self oo)
              rw [HTK.out, List.length_append, HLK.out]
              exact this
            · rw [HTK.out]
              refine (HRN.out.map (W' := w7) fun u zs ho => row_other (World.ownsRow.alloc ho _) (World.ownsRow.alloc HOG.out _) HG7.out (by decide)).map fun u zs ho => row_set ho (Nat.lt_succ_self oo) _
            · refine Below.setCell (p := ⟨oo, 2, none⟩) ?_ (Nat.le_refl oo) _
              exact ((HBL.out.trans (HBI.out.mono (by omega))).alloc (by omega) _).grown HG7.out (by simp; omega) (fun q hq => by have := row_lt HOG.out hq; omega)
          case measure => simp [intOf]; omega
    · have HE := Lib.hid (show k = z.length by omega)
      have ho := HOQ.out
      rw [HE.out] at ho
      have c0 := HXQ.out.m0
      have c1 := HXQ.out.m1
      have c2 := HXQ.out.m2
      rw [HE.out] at c2
      have r0 := (HBL.out.cell (p := ⟨w.heap.size, 0, none⟩) (show w.heap.size < oo by omega)).trans HY2.out.m0
      have r1 := (HBL.out.cell (p := ⟨w.heap.size, 1, none⟩) (show w.heap.size < oo by omega)).trans HY2.out.m1
      have r2 := (HBL.out.cell (p := ⟨w.heap.size, 2, none⟩) (show w.heap.size < oo by omega)).trans HY2.out.m2
      have s0 := (HBL.out.frozen (p := ⟨w.heap.size, 0, none⟩) (show w.heap.size < oo by omega)).trans (HY2.out.frozen 0)
      have s1 := (HBL.out.frozen (p := ⟨w.heap.size, 1, none⟩) (show w.heap.size < oo by omega)).trans (HY2.out.frozen 1)
      have s2 := (HBL.out.frozen (p := ⟨w.heap.size, 2, none⟩) (show w.heap.size < oo by omega)).trans (HY2.out.frozen 2)
      have HO9 := Lib.hid ho
      clear ho
      go_wp2_with fail
      refine bodyPost_ret (v := .agg #[.int .i64 p, .int .i64 ((cn : Int) + (cs.length : Int)), .slice va z.length vc]) (by simp [results, Try.results123, go_sem, r0, r1, r2]) rfl ⟨⟨va, vc, us, rfl, ?_⟩, ?_⟩
      · have h9 := HOO.out
        exact ((((HO9.out.setCell3 (p := ⟨w.heap.size, 0, none⟩) (by show w.heap.size < oo + 1; omega) _).setCell3 (p := ⟨w.heap.size, 1, none⟩) (by show w.heap.size < oo + 1; omega) _).setCell3 (p := ⟨w.heap.size, 2, none⟩) (by show w.heap.size < oo + 1; omega) _)).mono3 (by omega)
      · exact (((HBW.out.setCell (p := ⟨w.heap.size, 0, none⟩) (Nat.le_refl _) _).setCell (p := ⟨w.heap.size, 1, none⟩) (Nat.le_refl _) _).setCell (p := ⟨w.heap.size, 2, none⟩) (Nat.le_refl _) _)
end Go.Proofs.Ytnebkhelobpkpaa

/- InverseOf of the model. -/
import Derived.Test.YtekhjoenejgmaaaInu
import Derived.Test.YtekhjoenejgmaaaEcm
import Derived.Test.YtekhjoenejgmaaaBe
import Derived.Deep.AppendLies
import Derived.Deep.RegionHeld3
namespace Go.Proofs.Ytekhjoenejgmaaa
open Go.RowKit Go.Deep Go.Joins
set_option linter.unusedVariables false

set_option maxRecDepth 100000 in
set_option maxHeartbeats 8000000 in
theorem specIn_any (p c : Int) (a : Option Addr) (z : List (List Int)) (ca : Nat) (w : World) (hr : Rows2 w a z) (hl : Lens z) :
    Calls Try.prog 38 #[.agg #[.int .i64 p, .int .i64 c, .slice a z.length ca]] w (GivesMX w (inSel p c z 0 p) (inSel p c z 0 c) (inSel p c z [] (invZ p z.length z)) (inCode p c z)) := by
  have HR := Lib.hid hr
  have HL := Lib.hid hl
  clear hr hl
  obtain ⟨i1, ji, jz0, jz1, jz2⟩ := info_parts Try.infoInt64S
  go_enter Try.func38, Try.ntmps38
  go_wp2_with fail
  have hb2 := ((Below.refl w.heap.size w).alloc (Nat.le_refl _) (.cells #[.int .i64 p, .int .i64 c, .slice a z.length ca] 31)).alloc (by simp) (.cells #[.int .i64 0, .int .i64 0, .slice none 0 0] 31)
  have hx : Boxes ((w.alloc (.cells #[.int .i64 p, .int .i64 c, .slice a z.length ca] 31)).alloc (.cells #[.int .i64 0, .int .i64 0, .slice none 0 0] 31)) w.heap.size 31 #[.int .i64 p, .int .i64 c, .slice a z.length ca] := Boxes.step (World.alloc_heap_new w _) (al_b _ _)
  have hy : Boxes ((w.alloc (.cells #[.int .i64 p, .int .i64 c, .slice a z.length ca] 31)).alloc (.cells #[.int .i64 0, .int .i64 0, .slice none 0 0] 31)) (w.heap.size + 1) 31 #[.int .i64 0, .int .i64 0, .slice none 0 0] := by
    have : Boxes ((w.alloc (.cells #[.int .i64 p, .int .i64 c, .slice a z.length ca] 31)).alloc (.cells #[.int .i64 0, .int .i64 0, .slice none 0 0] 31)) (w.alloc (.cells #[.int .i64 p, .int .i64 c, .slice a z.length ca] 31)).heap.size 31 #[.int .i64 0, .int .i64 0, .slice none 0 0] := World.alloc_heap_new _ _
    simp only [World.size_alloc] at this
    exact this
  have hs2 : ((w.alloc (.cells #[.int .i64 p, .int .i64 c, .slice a z.length ca] 31)).alloc (.cells #[.int .i64 0, .int .i64 0, .slice none 0 0] 31)).heap.size = w.heap.size + 2 := by simp
  have hr2 := HR.out.below hb2 (Nat.le_refl _)
  refine (l03Ok_any w.heap.size p c a z ca _ hx hr2 HL.out).mono ?_
  generalize ((w.alloc (.cells #[.int .i64 p, .int .i64 c, .slice a z.length ca] 31)).alloc (.cells #[.int .i64 0, .int .i64 0, .slice none 0 0] 31)) = w2 at *
  rintro e w3 ⟨rfl, hq⟩
  have hb3 := quiet_below hq
  have HXM := Lib.hid (hx.step hb3)
  have HXR := Lib.hid (hy.step hb3)
  have HB := Lib.hid (hb2.trans (hb3.mono (by omega)))
  have hsz3 : w.heap.size + 2 ≤ w3.heap.size := by have := hb3.size; omega
  clear hb2 hx hy hs2 hb3 hq hr2
  have e0 := HXR.out.m0
  have e1 := HXR.out.m1
  have e2 := HXR.out.m2
  have f0 := HXR.out.frozen 0
  have f1 := HXR.out.frozen 1
  have f2 := HXR.out.frozen 2
  have hlt := HXR.out.lt
  have d0 := HXM.out.m0
  have d1 := HXM.out.m1
  have d2 := HXM.out.m2
  have hlm := HXM.out.lt
  by_cases hm : MatOk p c z
  case neg =>
    have HT := Lib.hid (tell_false hm)
    have HV := Lib.hid (show inCode p c z = 1 ∧ ∀ (α : Type) (b o : α), inSel p c z b o = b from by have h := in_sq (p := p) (c := c) (z := z) (by rw [sq_one hm]; decide); rw [sq_one hm] at h; exact h)
    clear hm
    rw [HT.out]
    go_wp2_with fail
    refine bodyPost_ret (v := .tuple #[.agg #[.int .i64 0, .int .i64 0, .slice none 0 0], .int .i64 1]) (by simp [results, Try.results38, go_sem, e0, e1, e2]) rfl ⟨⟨none, 0, by rw [HV.out.1, HV.out.2, HV.out.2, HV.out.2]; rfl, by rw [HV.out.2]; exact .inl rfl⟩, (((HB.out.setCell (p := ⟨w.heap.size + 1, 0, none⟩) (by show w.heap.size ≤ w.heap.size + 1; omega) _).setCell (p := ⟨w.heap.size + 1, 1, none⟩) (by show w.heap.size ≤ w.heap.size + 1; omega) _).setCell (p := ⟨w.heap.size + 1, 2, none⟩) (by show w.heap.size ≤ w.heap.size + 1; omega) _)⟩
  have HT := Lib.hid (tell_true hm)
  by_cases hc : c = (z.length : Int)
  case neg =>
    have HV := Lib.hid (show inCode p c z = 2 ∧ ∀ (α : Type) (b o : α), inSel p c z b o = b from by have h := in_sq (p := p) (c := c) (z := z) (by rw [sq_two hm hc]; decide); rw [sq_two hm hc] at h; exact h)
    have hc2 : ¬ (z.length : Int) = c := fun e => hc e.symm
    clear hm
    rw [HT.out]
    go_wp2_with fail
    refine bodyPost_ret (v := .tuple #[.agg #[.int .i64 0, .int .i64 0, .slice none 0 0], .int .i64 2]) (by simp [results, Try.results38, go_sem, e0, e1, e2]) rfl ⟨⟨none, 0, by rw [HV.out.1, HV.out.2, HV.out.2, HV.out.2]; rfl, by rw [HV.out.2]; exact .inl rfl⟩, (((HB.out.setCell (p := ⟨w.heap.size + 1, 0, none⟩) (by show w.heap.size ≤ w.heap.size + 1; omega) _).setCell (p := ⟨w.heap.size + 1, 1, none⟩) (by show w.heap.size ≤ w.heap.size + 1; omega) _).setCell (p := ⟨w.heap.size + 1, 2, none⟩) (by show w.heap.size ≤ w.heap.size + 1; omega) _)⟩
  subst hc
  have HM := Lib.hid hm
  have HSQ := Lib.hid (sq_ok hm rfl)
  have HGM := Lib.hid (show GoodM p z.length z by have h := GoodM.of hm; simpa only [Int.toNat_natCast] using h)
  have hz12 : z.length ≤ 12 := by have := hm.2.1.2; omega
  have HR3 := Lib.hid (HR.out.below HB.out (Nat.le_refl _))
  clear hm
  rw [HT.out]
  go_upto_region 5 with fail
  clear e0 e1 e2 f0 f1 f2 hlt d0 d1 d2 hlm
  have MK := Lib.hid (show ∀ w' : World, Below w3.heap.size w3 w' → w'.cell? ⟨w.heap.size, 1, none⟩ = some (.int .i64 (z.length : Int)) from fun w' hw => (HXM.out.step hw).m1)
  go_region_held3 (fun w' => w'.cell? ⟨w.heap.size, 1, none⟩ = some (.int .i64 (z.length : Int))) (first | exact MK.out _ (drew_step _) | exact MK.out _ HB4.out | fail) ((go_at_call 84; refine (l03Rank_any w.heap.size z.length ca p a z _ (HXM.out.step (drew_step _)) (HR3.out.step (drew_step _)) HGM.out).mono ?_; rintro e w4 ⟨rfl, hb4⟩; have HB4 := Lib.hid (show Below w3.heap.size w3 w4 from (drew_step w3).trans hb4); clear hb4))
  replace HXM := Lib.hid (HXM.out.step HB4.out)
  replace HXR := Lib.hid (HXR.out.step HB4.out)
  replace HR3 := Lib.hid (HR3.out.step HB4.out)
  replace HB := Lib.hid (HB.out.trans (HB4.out.mono HB.out.size))
  have hsz4 : w.heap.size + 2 ≤ w4.heap.size := by have := HB4.out.size; omega
  clear MK HB4
  have e0 := HXR.out.m0
  have e1 := HXR.out.m1
  have e2 := HXR.out.m2
  have f0 := HXR.out.frozen 0
  have f1 := HXR.out.frozen 1
  have f2 := HXR.out.frozen 2
  have hlt := HXR.out.lt
  have d0 := HXM.out.m0
  have d1 := HXM.out.m1
  have d2 := HXM.out.m2
  have hlm := HXM.out.lt
  by_cases hF : (echF p z.length z).length = z.length
  case neg =>
    have HV := Lib.hid (in_no HSQ.out (fun h => hF (inv_full HGM.out rfl (by omega) h)))
    have hF2 : ¬ (((echF p z.length z).length : Nat) : Int) = (z.length : Int) := by omega
    generalize (echF p z.length z).length = rk at *
    go_wp2_with fail
    refine bodyPost_ret (v := .tuple #[.agg #[.int .i64 0, .int .i64 0, .slice none 0 0], .int .i64 4]) (by simp [results, Try.results38, go_sem, e0, e1, e2]) rfl ⟨⟨none, 0, by rw [HV.out.1, HV.out.2, HV.out.2, HV.out.2]; rfl, by rw [HV.out.2]; exact .inl rfl⟩, (((HB.out.setCell (p := ⟨w.heap.size + 1, 0, none⟩) (by show w.heap.size ≤ w.heap.size + 1; omega) _).setCell (p := ⟨w.heap.size + 1, 1, none⟩) (by show w.heap.size ≤ w.heap.size + 1; omega) _).setCell (p := ⟨w.heap.size + 1, 2, none⟩) (by show w.heap.size ≤ w.heap.size + 1; omega) _)⟩
  have HI := Lib.hid (inv_of_full HGM.out rfl (by omega) hF)
  have HV := Lib.hid (in_yes HM.out rfl HI.out)
  rw [hF]
  clear hF
  go_wp2_with fail
  refine (l03Unit_any p z.length _ hz12).mono ?_
  clear e0 e1 e2 f0 f1 f2 hlt d0 d1 d2 hlm
  rintro e w5 ⟨⟨ua, uc, uus, rfl, hou⟩, hb5⟩
  have HUR := Lib.hid (show Rows2 w5 ua (unitZ z.length) by obtain ⟨a', c', e, h⟩ := hou.rows2; injection e with h1 _ _; rw [h1]; exact h)
  replace HXM := Lib.hid (HXM.out.step hb5)
  replace HXR := Lib.hid (HXR.out.step hb5)
  replace HR3 := Lib.hid (HR3.out.step hb5)
  replace HB := Lib.hid (HB.out.trans (hb5.mono HB.out.size))
  clear hou hb5
  have d0 := HXM.out.m0
  have d1 := HXM.out.m1
  have d2 := HXM.out.m2
  have hlm := HXM.out.lt
  go_upto_region 8 with fail
  clear d0 d1 d2 hlm
  have hbu := al_b w5 (.cells #[.int .i64 p, .int .i64 (z.length : Int), .slice ua z.length uc] 31)
  have hxu : Boxes (w5.alloc (.cells #[.int .i64 p, .int .i64 (z.length : Int), .slice ua z.length uc] 31)) w5.heap.size 31 #[.int .i64 p, .int .i64 (z.length : Int), .slice ua z.length uc] := World.alloc_heap_new _ _
  replace HXM := Lib.hid (HXM.out.step hbu)
  replace HXR := Lib.hid (HXR.out.step hbu)
  replace HR3 := Lib.hid (HR3.out.step hbu)
  replace HUR := Lib.hid (HUR.out.step hbu)
  replace HB := Lib.hid (HB.out.trans (hbu.mono HB.out.size))
  generalize w5.heap.size = qu at *
  generalize w5.alloc (.cells #[.int .i64 p, .int .i64 (z.length : Int), .slice ua z.length uc] 31) = w6 at *
  have u2 := hxu.m2
  have ul := hxu.lt
  clear hbu
  go_wp2_with fail
  clear u2 ul hxu
  have hbes := l03Beside_any w.heap.size p z.length a z ca ua (unitZ z.length) uc w6 HXM.out HR3.out (by omega) (by omega) (fun r hr => (HGM.out.rows r hr).1) HUR.out (by rw [unitZ_len]; omega) (fun q hq => by rw [unitZ_len] at hq; rw [unitZ_at hq, unitL_len])
  rw [unitZ_len] at hbes
  obtain ⟨NN, hNN⟩ : ∃ NN : Nat, NN = z.length + z.length := ⟨_, rfl⟩
  have HNN := Lib.hid hNN
  have hcast : (z.length : Int) + (z.length : Int) = (NN : Int) := by omega
  rw [hcast] at hbes
  have HWG := Lib.hid (show GoodM p NN (besA z (unitZ z.length) z.length) by rw [hNN]; exact wide_good HGM.out rfl (by omega))
  have hiw := inv_wide HGM.out rfl (by omega) HI.out
  rw [← hNN] at hiw
  have HIW := Lib.hid hiw
  have HWL := Lib.hid (besA_len z (unitZ z.length) z.length)
  clear hcast hiw hNN
  refine hbes.mono ?_
  clear hbes
  generalize besA z (unitZ z.length) z.length = WZ at *
  rintro e w7 ⟨⟨ba, bc, bus, rfl, hob⟩, hb7⟩
  have HBR := Lib.hid (show Rows2 w7 ba WZ by obtain ⟨a', c', e, h⟩ := hob.rows2; injection e with h1 _ _; rw [h1]; exact h)
  replace HXM := Lib.hid (HXM.out.step hb7)
  replace HXR := Lib.hid (HXR.out.step hb7)
  replace HB := Lib.hid (HB.out.trans (hb7.mono HB.out.size))
  clear hob hb7 HR3 HUR
  have hbb := al_b w7 (.cells #[.int .i64 p, .int .i64 (NN : Int), .slice ba z.length bc] 31)
  have hxb : Boxes (w7.alloc (.cells #[.int .i64 p, .int .i64 (NN : Int), .slice ba z.length bc] 31)) w7.heap.size 31 #[.int .i64 p, .int .i64 (NN : Int), .slice ba z.length bc] := World.alloc_heap_new _ _
  go_wp2_with fail
  replace hxb : Boxes (w7.alloc (.cells #[.int .i64 p, .int .i64 (NN : Int), .slice ba z.length bc] 31)) w7.heap.size 31 #[.int .i64 p, .int .i64 (NN : Int), .slice ba WZ.length bc] := by rw [HWL.out]; exact hxb
  refine (l03Echelon_any _ NN bc p ba WZ _ hxb (HBR.out.step hbb) HWG.out).mono ?_
  clear hxb
  replace HXM := Lib.hid (HXM.out.step hbb)
  replace HXR := Lib.hid (HXR.out.step hbb)
  replace HB := Lib.hid (HB.out.trans (hbb.mono HB.out.size))
  clear hbb HBR
  generalize w7.alloc (.cells #[.int .i64 p, .int .i64 (NN : Int), .slice ba z.length bc] 31) = w8 at *
  rintro e w9 ⟨⟨ea, ec, fa, fc, eus, f, rfl, hom, hof, hfl, htab⟩, hb9⟩
  rw [HIW.out.1]
  have HTAB := Lib.hid (show ∀ k, k < z.length → (rowOf NN (f k)).drop z.length = solZ p z.length (turned z z.length) (unitL z.length k) from fun k hk => by
    have h := HIW.out.2 k hk
    rw [← htab, HIW.out.1, rowOf_tab _ _ _ hk] at h
    exact h)
  have HOM := Lib.hid (show OwnM w9 w8.heap.size ea z.length ec eus NN f by have h := hom; rw [HWL.out] at h; exact h)
  replace HXM := Lib.hid (HXM.out.step hb9)
  replace HXR := Lib.hid (HXR.out.step hb9)
  replace HB := Lib.hid (HB.out.trans (hb9.mono HB.out.size))
  clear hom hof hfl htab hb9
  have d0 := HXM.out.m0
  have d1 := HXM.out.m1
  have d2 := HXM.out.m2
  have hlm := HXM.out.lt
  have hbe := al_b w9 (.cells #[.int .i64 p, .int .i64 (NN : Int), .slice ea z.length ec] 31)
  have hxe : Boxes (w9.alloc (.cells #[.int .i64 p, .int .i64 (NN : Int), .slice ea z.length ec] 31)) w9.heap.size 31 #[.int .i64 p, .int .i64 (NN : Int), .slice ea z.length ec] := World.alloc_heap_new _ _
  go_upto_region 10 with fail
  clear d0 d1 d2 hlm
  replace HXM := Lib.hid (HXM.out.step hbe)
  replace HXR := Lib.hid (HXR.out.step hbe)
  replace HOM := Lib.hid (HOM.out.step hbe)
  replace HB := Lib.hid (HB.out.trans (hbe.mono HB.out.size))
  have HXE := Lib.hid hxe
  clear hbe hxe
  generalize w9.heap.size = qe at *
  generalize w9.alloc (.cells #[.int .i64 p, .int .i64 (NN : Int), .slice ea z.length ec] 31) = w10 at *
  have d0 := HXM.out.m0
  have d1 := HXM.out.m1
  have d2 := HXM.out.m2
  have hlm := HXM.out.lt
  have hbo := al_b w10 (.cells #[.int .i64 p, .int .i64 (z.length : Int), .slice none 0 0] 31)
  have hxo : Boxes (w10.alloc (.cells #[.int .i64 p, .int .i64 (z.length : Int), .slice none 0 0] 31)) w10.heap.size 31 #[.int .i64 p, .int .i64 (z.length : Int), .slice none 0 0] := World.alloc_heap_new _ _
  go_upto_region 11 with fail
  clear d0 d1 d2 hlm
  have hqe2 : qe < w10.heap.size := HXE.out.lt
  have hqm2 : w.heap.size < w10.heap.size := HXM.out.lt
  have hqr2 : w.heap.size + 1 < w10.heap.size := HXR.out.lt
  have HBO := Lib.hid hbo
  have HXO := Lib.hid hxo
  clear hbo hxo
  generalize hoo : w10.heap.size = oo at *
  generalize w10.alloc (.cells #[.int .i64 p, .int .i64 (z.length : Int), .slice none 0 0] 31) = w11 at *
  have HOO := Lib.hid hoo
  clear hoo
  go_wp2_with fail
  go_loopw [9] (fun i wr => ∃ (k : Nat) (va : Option Addr) (vc : Nat) (us : List Value), k ≤ z.length ∧ i = .int .i64 k ∧ Boxes wr oo 31 #[.int .i64 p, .int .i64 (z.length : Int), .slice va k vc] ∧ Own wr (oo + 1) (.slice va k vc) us ((invZ p z.length z).take k) ∧ Below oo w10 wr)
    (fun i _ => z.length - (intOf i).toNat)
  case atStart => exact ⟨0, none, 0, [], Nat.zero_le _, rfl, HXO.out, Own.nil3 _ _, HBO.out⟩
  case round =>
    obtain ⟨k, va, vc, us, hk, rfl, hx, hown, hb⟩ := hrel
    have HXQ := Lib.hid hx
    have HOQ := Lib.hid hown
    have HBL := Lib.hid hb
    have hb10 : Below w10.heap.size w10 wr := by rw [HOO.out]; exact hb
    have HM1 := Lib.hid (HXM.out.step hb10)
    have HE1 := Lib.hid (HXE.out.step hb10)
    have HR1 := Lib.hid (HXR.out.step hb10)
    have HBW := Lib.hid (HB.out.trans (hb10.mono HB.out.size))
    have hooq1 : oo + 1 ≤ wr.heap.size := hx.lt
    have hol : oo < wr.heap.size := hx.lt
    have c2 := hx.m2
    have k2 := hx.frozen 2
    have g2 := HE1.out.m2
    have gl := HE1.out.lt
    have hlk : ((invZ p z.length z).take k).length = k := by rw [List.length_take, invZ_len]; omega
    have HLN := Lib.hid hlk
    clear hx hown hb hlk HBO HXO
    by_cases hlt9 : k < z.length
    · have hi0 : (k : Int) < (z.length : Int) := by omega
      obtain ⟨b, g, cap0, rfl, hu, hb0, hbl, hcell, hfz, hoi, hbx⟩ := HOM.out.at hlt9 (by have := HNN.out; omega)
      have hbo : b < oo := by have := HOO.out; omega
      have hgo : g < oo := by have := hoi.gl.2; have := HOO.out; omega
      have hcellw := (HBL.out.cell (p := ⟨b, k, none⟩) hbo).trans hcell
      have hcap : NN ≤ cap0 := by
        rcases hoi.2 with ⟨hz9, hv9⟩ | ⟨g9, c9, cur9, hv9, _, _, hle9, _⟩
        · rw [rowOf_len] at hv9; have := HNN.out; omega
        · injection hv9 with h1 h2 h3; rw [rowOf_len] at hle9; omega
      have hcne : ¬ cap0 = z.length := by have := HNN.out; omega
      have hNNi : (z.length : Int) ≤ (NN : Int) := by have := HNN.out; omega
      have hNN2 : NN - z.length = z.length := by have := HNN.out; omega
      have HN2 := Lib.hid hNN2
      clear hNN2
      obtain ⟨sol, hsol⟩ : ∃ sol, solZ p z.length (turned z z.length) (unitL z.length k) = sol := ⟨_, rfl⟩
      have hsl : sol.length = z.length := by rw [← hsol, solZ_len]
      have HSL := Lib.hid hsl
      have HIN := Lib.hid (show Ints wr (some ⟨g, z.length, none⟩) sol from .inr ⟨g, z.length, rfl, fun i hi => by
        have hi' : i < z.length := by omega
        have e := HTAB.out k hlt9
        rw [hsol] at e
        have e1 : nth sol i = f k (z.length + i) := by
          rw [← e, nth_lt (by rw [e]; exact hi)]
          simp [rowOf]
        rw [e1]
        exact (HBL.out.cell (p := ⟨g, z.length + i, none⟩) hgo).trans (hoi.at (by have := HNN.out; omega))⟩)
      have HT1 := Lib.hid (show (invZ p z.length z).take (k + 1) = (invZ p z.length z).take k ++ [sol] from by rw [take_snoc _ (by rw [invZ_len]; exact hlt9), invZ_at hlt9, hsol])
      have h0z : 0 ≤ (z.length : Int) := by omega
      have q1 := HM1.out.m1
      have ql := HM1.out.lt
      have bl : b < wr.heap.size := by omega
      have HQ1 := Lib.hid q1
      have HG2 := Lib.hid g2
      have HCW := Lib.hid hcellw
      have MKW := Lib.hid (show ∀ w' : World, w'.heap[w.heap.size]? = wr.heap[w.heap.size]? → w'.heap[qe]? = wr.heap[qe]? → w'.heap[b]? = wr.heap[b]? → w'.cell? ⟨w.heap.size, 1, none⟩ = some (.int .i64 (z.length : Int)) ∧ w'.cell? ⟨qe, 2, none⟩ = some (.slice (some ⟨b, 0, none⟩) z.length ec) ∧ w'.cell? ⟨b, k, none⟩ = some (.slice (some ⟨g, 0, none⟩) NN cap0) from fun w' h1 h2 h3 => ⟨by have := HQ1.out; unfold World.cell? at this ⊢; rw [h1]; exact this, by have := HG2.out; unfold World.cell? at this ⊢; rw [h2]; exact this, by have := HCW.out; unfold World.cell? at this ⊢; rw [h3]; exact this⟩)
      have MK := Lib.hid (show ∀ w' : World, Below wr.heap.size wr w' → w'.cell? ⟨w.heap.size, 1, none⟩ = some (.int .i64 (z.length : Int)) ∧ w'.cell? ⟨qe, 2, none⟩ = some (.slice (some ⟨b, 0, none⟩) z.length ec) ∧ w'.cell? ⟨b, k, none⟩ = some (.slice (some ⟨g, 0, none⟩) NN cap0) from fun w' hw => MKW.out w' (hw.block _ ql) (hw.block _ gl) (hw.block _ bl))
      have MKS := Lib.hid (show ∀ (W : World) {y : Value}, (W.cell? ⟨w.heap.size, 1, none⟩ = some (.int .i64 (z.length : Int)) ∧ W.cell? ⟨qe, 2, none⟩ = some (.slice (some ⟨b, 0, none⟩) z.length ec) ∧ W.cell? ⟨b, k, none⟩ = some (.slice (some ⟨g, 0, none⟩) NN cap0)) → (W.setCell ⟨oo, 2, none⟩ y).cell? ⟨w.heap.size, 1, none⟩ = some (.int .i64 (z.length : Int)) ∧ (W.setCell ⟨oo, 2, none⟩ y).cell? ⟨qe, 2, none⟩ = some (.slice (some ⟨b, 0, none⟩) z.length ec) ∧ (W.setCell ⟨oo, 2, none⟩ y).cell? ⟨b, k, none⟩ = some (.slice (some ⟨g, 0, none⟩) NN cap0) from fun W y h => ⟨by have h1 := h.1; unfold World.cell? at h1 ⊢; rw [Below.heap_setCell _ _ _ _ (by simp; omega)]; exact h1, by have h1 := h.2.1; unfold World.cell? at h1 ⊢; rw [Below.heap_setCell _ _ _ _ (by simp; omega)]; exact h1, by have h1 := h.2.2; unfold World.cell? at h1 ⊢; rw [Below.heap_setCell _ _ _ _ (by simp; omega)]; exact h1⟩)
      have hqmo : w.heap.size < oo := by omega
      have hqeo : qe < oo := by omega
      have HCALL := Lib.hid (show ∀ W : World, Ints W (some ⟨g, z.length, none⟩) sol → Calls Try.prog 88 #[.slice (some ⟨g, z.length, none⟩) (NN - z.length) (cap0 - z.length)] W (GivesInts W sol) from fun W hW => by rw [HN2.out]; have h := l00Own_any (some ⟨g, z.length, none⟩) sol (cap0 - z.length) W hW (by rw [HSL.out]; omega); rw [HSL.out] at h; exact h)
      clear hsl hsol hcell hfz hoi hbx hu hcellw
      go_wp2_with fail
      refine wp_region_noPanic ?_
      refine wp_region_held_drew (S := (fun w' => w'.cell? ⟨w.heap.size, 1, none⟩ = some (.int .i64 (z.length : Int)) ∧ w'.cell? ⟨qe, 2, none⟩ = some (.slice (some ⟨b, 0, none⟩) z.length ec) ∧ w'.cell? ⟨b, k, none⟩ = some (.slice (some ⟨g, 0, none⟩) NN cap0))) (by kernel_rfl) ?_ (fun hH => ?_)
      · exact MK.out _ (drew_step _)
      refine wpAnyH_take (i := 0) (oi := ?oi1) (v := ?v1) ?hi1 (by kernel_rfl) (by kernel_rfl) (by kernel_rfl) (fun _ _ _ h => h) (Or.inl ⟨?hw1, ?hy1⟩) hH ?rest1
      case hi1 => (simp only [List.getElem?_toArray, List.getElem?_cons_zero]; rfl)
      case hw1 => rfl
      case hy1 => (intro w hSw; (try dsimp only at hSw); go_simp; try with_reducible rfl)
      (try simp only [Act.put, List.setIfInBounds_toArray, List.set_cons_zero, List.set_cons_succ])
      refine wpAnyH_take (i := 2) (oi := ?oi2) (v := ?v2) ?hi2 (by kernel_rfl) (by kernel_rfl) (by kernel_rfl) (fun _ _ _ h => h) (Or.inl ⟨?hw2, ?hy2⟩) hH ?rest2
      case hi2 => (simp only [List.getElem?_toArray, List.getElem?_cons_succ, List.getElem?_cons_zero]; rfl)
      case hw2 => rfl
      case hy2 => (intro w hSw; (try dsimp only at hSw); go_simp; try with_reducible rfl)
      (try simp only [Act.put, List.setIfInBounds_toArray, List.set_cons_zero, List.set_cons_succ])
      refine wpAnyH_take (i := 3) (oi := ?oi3) (v := ?v3) ?hi3 (by kernel_rfl) (by kernel_rfl) (by kernel_rfl) (fun _ _ _ h => h) (Or.inl ⟨?hw3, ?hy3⟩) hH ?rest3
      case hi3 => (simp only [List.getElem?_toArray, List.getElem?_cons_succ, List.getElem?_cons_zero]; rfl)
      case hw3 => rfl
      case hy3 => (intro w hSw; (try dsimp only at hSw); go_simp; try with_reducible rfl)
      (try simp only [Act.put, List.setIfInBounds_toArray, List.set_cons_zero, List.set_cons_succ])
      refine wpAnyH_take (i := 4) (oi := ?oi4) (v := ?v4) ?hi4 (by kernel_rfl) (by kernel_rfl) (by kernel_rfl) (fun _ _ _ h => h) (Or.inl ⟨?hw4, ?hy4⟩) hH ?rest4
      case hi4 => (simp only [List.getElem?_toArray, List.getElem?_cons_succ, List.getElem?_cons_zero]; rfl)
      case hw4 => rfl
      case hy4 => (intro w hSw; (try dsimp only at hSw); go_simp; try with_reducible rfl)
      (try simp only [Act.put, List.setIfInBounds_toArray, List.set_cons_zero, List.set_cons_succ])
      refine wpAnyH_take (i := 5) (oi := ?oi5) (v := ?v5) ?hi5 (by kernel_rfl) (by kernel_rfl) (by kernel_rfl) (fun _ _ _ h => h) (Or.inl ⟨?hw5, ?hy5⟩) hH ?rest5
      case hi5 => (simp only [List.getElem?_toArray, List.getElem?_cons_succ, List.getElem?_cons_zero]; rfl)
      case hw5 => rfl
      case hy5 => (intro w hSw; (try dsimp only at hSw); go_simp; try with_reducible rfl)
      (try simp only [Act.put, List.setIfInBounds_toArray, List.set_cons_zero, List.set_cons_succ])
      refine wpAnyH_take (i := 6) (oi := ?oi6) (v := ?v6) ?hi6 (by kernel_rfl) (by kernel_rfl) (by kernel_rfl) (fun _ _ _ h => h) (Or.inl ⟨?hw6, ?hy6⟩) hH ?rest6
      case hi6 => (simp only [List.getElem?_toArray, List.getElem?_cons_succ, List.getElem?_cons_zero]; rfl)
      case hw6 => rfl
      case hy6 => (intro w hSw; (try dsimp only at hSw); go_simp; try with_reducible rfl)
      (try simp only [Act.put, List.setIfInBounds_toArray, List.set_cons_zero, List.set_cons_succ])
      refine wpAnyH_take (i := 7) (oi := ?oi7) (v := ?v7) ?hi7 (by kernel_rfl) (by kernel_rfl) (by kernel_rfl) (fun _ _ _ h => h) (Or.inl ⟨?hw7, ?hy7⟩) hH ?rest7
      case hi7 => (simp only [List.getElem?_toArray, List.getElem?_cons_succ, List.getElem?_cons_zero]; rfl)
      case hw7 => rfl
      case hy7 => (intro w hSw; (try dsimp only at hSw); go_simp; try with_reducible rfl)
      (try simp only [Act.put, List.setIfInBounds_toArray, List.set_cons_zero, List.set_cons_succ])
      refine wpAnyH_take (i := 8) (oi := ?oi8) (v := ?v8) ?hi8 (by kernel_rfl) (by kernel_rfl) (by kernel_rfl) (fun _ _ _ h => h) (Or.inl ⟨?hw8, ?hy8⟩) hH ?rest8
      case hi8 => (simp only [List.getElem?_toArray, List.getElem?_cons_succ, List.getElem?_cons_zero]; rfl)
      case hw8 => rfl
      case hy8 => (intro w hSw; (try dsimp only at hSw); go_simp; try with_reducible rfl)
      (try simp only [Act.put, List.setIfInBounds_toArray, List.set_cons_zero, List.set_cons_succ])
      refine wpAnyH_take (i := 9) (oi := ?oi9) (v := ?v9) ?hi9 (by kernel_rfl) (by kernel_rfl) (by kernel_rfl) (fun _ _ _ h => h) (Or.inl ⟨?hw9, ?hy9⟩) hH ?rest9
      case hi9 => (simp only [List.getElem?_toArray, List.getElem?_cons_succ, List.getElem?_cons_zero]; rfl)
      case hw9 => rfl
      case hy9 => (intro w hSw; (try dsimp only at hSw); go_simp; try with_reducible rfl)
      (try simp only [Act.put, List.setIfInBounds_toArray, List.set_cons_zero, List.set_cons_succ])
      refine wpAnyH_ready (rs := [1, 10]) (by kernel_rfl) (by simp) ?_
      refine AllReadyH.cons (o := ?o10) ?ho10 (fun K hK => ?step10) ?more10
      case ho10 => (simp only [List.getElem?_toArray, List.getElem?_cons_succ, List.getElem?_cons_zero]; rfl)
      case step10 =>
        go_simp
        refine hK.out _ _ ?_ (fun hH0 => ?_)
        · exact hH
        clear hK K hH
        (try simp only [Act.put, List.setIfInBounds_toArray, List.set_cons_zero, List.set_cons_succ])
        refine wpAnyH_ready (rs := [10]) (by kernel_rfl) (by simp) ?_
        refine AllReadyH.cons (o := ?o11) ?ho11 (fun K hK => ?step11) ?more11
        case ho11 => (simp only [List.getElem?_toArray, List.getElem?_cons_succ, List.getElem?_cons_zero]; rfl)
        case step11 =>
          go_simp
          go_at_call 88; refine (HCALL.out _ (HIN.out.step (drew_step _))).mono ?_; rintro e w5 ⟨⟨v5, rfl, hv5⟩, hb5⟩; obtain ⟨v5a, v5c, rfl⟩ := rowForm hv5; have HB5 := Lib.hid (show Below wr.heap.size wr w5 from (drew_step wr).trans hb5); have HV5 := Lib.hid (show OwnI w5 wr.heap.size (.slice v5a sol.length v5c) sol from hv5); clear hv5 hb5; have z0 := (HXQ.out.step HB5.out).m2; have zf := (HXQ.out.step HB5.out).frozen 2; have zl : oo < w5.heap.size := (HXQ.out.step HB5.out).lt
          go_wp2_with fail
          refine hK.out _ _ ?_ (fun hH1 => ?_)
          · exact MK.out _ HB5.out
          clear hK K hH0
          (try simp only [Act.put, List.setIfInBounds_toArray, List.set_cons_zero, List.set_cons_succ])
          refine wpAnyH_ready (rs := [11]) (by kernel_rfl) (by simp) ?_
          refine AllReadyH.cons (o := ?o12) ?ho12 (fun K hK => ?step12) ?more12
          case ho12 => (simp only [List.getElem?_toArray, List.getElem?_cons_succ, List.getElem?_cons_zero]; rfl)
          case step12 =>
            go_simp
            refine hK.out _ _ ?_ (fun hH2 => ?_)
            · exact MK.out _ (HB5.out.alloc HB5.out.size _)
            clear hK K hH1
            (try simp only [Act.put, List.setIfInBounds_toArray, List.set_cons_zero, List.set_cons_succ])
            refine wpAnyH_ready (rs := [12]) (by kernel_rfl) (by simp) ?_
            refine AllReadyH.cons (o := ?o13) ?ho13 (fun K hK => ?step13) ?more13
            case ho13 => (simp only [List.getElem?_toArray, List.getElem?_cons_succ, List.getElem?_cons_zero]; rfl)
            case step13 =>
              refine step_append_lies _ (by rfl) _ _ 23 (by rfl) (oo + 1) 22 i1 (.slice none 0 0) 1 24 Try.underlying23 ji jz0 jz1 jz2 (by rfl) (by decide) (.slice va k vc) k us (by rfl) (by have h := World.ownsRow.alloc (row_step HOQ.out.row HB5.out) (.cells #[.slice v5a sol.length v5c] 22); rw [HLN.out] at h; exact h) ⟨w5.heap.size, 0, none⟩ 1 1 [.slice v5a sol.length v5c] (by rfl) (by rfl) (cell_one_new _ _ _) (by simp [Value.oneCell']) (by decide) (by unfold maxLen; omega) (by omega) (by have := HB5.out.size; simp; omega) _ rfl ?_; intro gg cap w8 hown8 hgrow8 hat8 hlt8; have HA5 := Lib.hid (HB5.out.alloc HB5.out.size (.cells #[.slice v5a sol.length v5c] 22)); have hx8 := Boxes.grown (HXQ.out.step HA5.out) hgrow8 (row_ge HOQ.out.row (Nat.lt_succ_self _)); have t0 := hx8.m2; have tf := hx8.frozen 2; have tl : oo < w8.heap.size := hx8.lt; have K8 := Lib.hid (MKW.out _ ((hgrow8.block w.heap.size (by have := HA5.out.size; omega) (row_ge HOQ.out.row (by omega)).symm).trans (HA5.out.block w.heap.size ql)) ((hgrow8.block qe (by have := HA5.out.size; omega) (row_ge HOQ.out.row (by omega)).symm).trans (HA5.out.block qe gl)) ((hgrow8.block b (by have := HA5.out.size; omega) (row_ge HOQ.out.row (by omega)).symm).trans (HA5.out.block b bl)))
              refine hK.out _ _ ?_ (fun hH3 => ?_)
              · exact K8.out
              clear hK K hH2
              (try simp only [Act.put, List.setIfInBounds_toArray, List.set_cons_zero, List.set_cons_succ])
              refine wpAnyH_take (i := 13) (oi := ?oi14) (v := ?v14) ?hi14 (by kernel_rfl) (by kernel_rfl) (by kernel_rfl) (fun _ _ _ h => h) (Or.inl ⟨?hw14, ?hy14⟩) hH3 ?rest14
              case hi14 => (simp only [List.getElem?_toArray, List.getElem?_cons_succ, List.getElem?_cons_zero]; rfl)
              case hw14 => rfl
              case hy14 => (intro w hSw; (try dsimp only at hSw); go_simp; try with_reducible rfl)
              (try simp only [Act.put, List.setIfInBounds_toArray, List.set_cons_zero, List.set_cons_succ])
              refine wpAnyH_ready (rs := [14]) (by kernel_rfl) (by simp) ?_
              refine AllReadyH.cons (o := ?o15) ?ho15 (fun K hK => ?step15) ?more15
              case ho15 => (simp only [List.getElem?_toArray, List.getElem?_cons_succ, List.getElem?_cons_zero]; rfl)
              case step15 =>
                go_simp
                refine hK.out _ _ ?_ (fun hH5 => ?_)
                · exact MKS.out _ K8.out
                clear hK K hH3
                (try simp only [Act.put, List.setIfInBounds_toArray, List.set_cons_zero, List.set_cons_succ])
                refine wpAnyH_done (by kernel_rfl) ?_ _
                refine NoPanic.normal ?_
                have HX8 := Lib.hid hx8
                have H8 := Lib.hid hown8
                have HV8 := Lib.hid (show RowsOwn w8 (oo + 1) (us ++ [.slice v5a sol.length v5c]) ((invZ p z.length z).take k ++ [sol]) from (HOQ.out.rows.snoc HB5.out HV5.out hooq1).map fun u zs ho => row_other (World.ownsRow.alloc ho _) (World.ownsRow.alloc (row_step HOQ.out.row HB5.out) _) hgrow8 (by decide))
                have HB8 := Lib.hid (show Below oo w10 w8 from (HBL.out.trans (HA5.out.mono (by omega))).grown hgrow8 (by have := HA5.out.size; omega) (fun q hq => by have := row_lt HOQ.out.row hq; omega))
                clear hx8 hown8 hgrow8 hat8 hlt8 c2 k2 g2 q1
                go_wp2_with fail
                go_roundw
                case rel =>
                  refine ⟨k + 1, some ⟨gg, 0, none⟩, cap, us ++ [.slice v5a sol.length v5c], by omega, by go_num, HX8.out.set3d _, ⟨?_, ?_⟩, HB8.out.setCell (p := ⟨oo, 2, none⟩) (Nat.le_refl _) _⟩
                  · have h := row_set (u := .slice (some ⟨gg, 0, none⟩) (k + 1) cap) (o := 2) H8.out (Nat.lt_succ_self oo)
                    rw [HT1.out, List.length_append, HLN.out]
                    exact h
                  · rw [HT1.out]
                    exact HV8.out.map fun u zs ho => row_set ho (Nat.lt_succ_self _) _
                case measure => simp [intOf]; omega
              exact AllReadyH.nil
            exact AllReadyH.nil
          exact AllReadyH.nil
        exact AllReadyH.nil
      refine AllReadyH.cons (o := ?o16) ?ho16 (fun K hK => ?step16) ?more16
      case ho16 => (simp only [List.getElem?_toArray, List.getElem?_cons_succ, List.getElem?_cons_zero]; rfl)
      case step16 =>
        go_simp
        go_at_call 88; refine (HCALL.out _ (HIN.out.step (drew_step _))).mono ?_; rintro e w5 ⟨⟨v5, rfl, hv5⟩, hb5⟩; obtain ⟨v5a, v5c, rfl⟩ := rowForm hv5; have HB5 := Lib.hid (show Below wr.heap.size wr w5 from (drew_step wr).trans hb5); have HV5 := Lib.hid (show OwnI w5 wr.heap.size (.slice v5a sol.length v5c) sol from hv5); clear hv5 hb5; have z0 := (HXQ.out.step HB5.out).m2; have zf := (HXQ.out.step HB5.out).frozen 2; have zl : oo < w5.heap.size := (HXQ.out.step HB5.out).lt
        go_wp2_with fail
        refine hK.out _ _ ?_ (fun hH0 => ?_)
        · exact MK.out _ HB5.out
        clear hK K hH
        (try simp only [Act.put, List.setIfInBounds_toArray, List.set_cons_zero, List.set_cons_succ])
        refine wpAnyH_ready (rs := [1, 11]) (by kernel_rfl) (by simp) ?_
        refine AllReadyH.cons (o := ?o17) ?ho17 (fun K hK => ?step17) ?more17
        case ho17 => (simp only [List.getElem?_toArray, List.getElem?_cons_succ, List.getElem?_cons_zero]; rfl)
        case step17 =>
          go_simp
          refine hK.out _ _ ?_ (fun hH1 => ?_)
          · exact hH0
          clear hK K hH0
          (try simp only [Act.put, List.setIfInBounds_toArray, List.set_cons_zero, List.set_cons_succ])
          refine wpAnyH_ready (rs := [11]) (by kernel_rfl) (by simp) ?_
          refine AllReadyH.cons (o := ?o18) ?ho18 (fun K hK => ?step18) ?more18
          case ho18 => (simp only [List.getElem?_toArray, List.getElem?_cons_succ, List.getElem?_cons_zero]; rfl)
          case step18 =>
            go_simp
            refine hK.out _ _ ?_ (fun hH2 => ?_)
            · exact MK.out _ (HB5.out.alloc HB5.out.size _)
            clear hK K hH1
            (try simp only [Act.put, List.setIfInBounds_toArray, List.set_cons_zero, List.set_cons_succ])
            refine wpAnyH_ready (rs := [12]) (by kernel_rfl) (by simp) ?_
            refine AllReadyH.cons (o := ?o19) ?ho19 (fun K hK => ?step19) ?more19
            case ho19 => (simp only [List.getElem?_toArray, List.getElem?_cons_succ, List.getElem?_cons_zero]; rfl)
            case step19 =>
              refine step_append_lies _ (by rfl) _ _ 23 (by rfl) (oo + 1) 22 i1 (.slice none 0 0) 1 24 Try.underlying23 ji jz0 jz1 jz2 (by rfl) (by decide) (.slice va k vc) k us (by rfl) (by have h := World.ownsRow.alloc (row_step HOQ.out.row HB5.out) (.cells #[.slice v5a sol.length v5c] 22); rw [HLN.out] at h; exact h) ⟨w5.heap.size, 0, none⟩ 1 1 [.slice v5a sol.length v5c] (by rfl) (by rfl) (cell_one_new _ _ _) (by simp [Value.oneCell']) (by decide) (by unfold maxLen; omega) (by omega) (by have := HB5.out.size; simp; omega) _ rfl ?_; intro gg cap w8 hown8 hgrow8 hat8 hlt8; have HA5 := Lib.hid (HB5.out.alloc HB5.out.size (.cells #[.slice v5a sol.length v5c] 22)); have hx8 := Boxes.grown (HXQ.out.step HA5.out) hgrow8 (row_ge HOQ.out.row (Nat.lt_succ_self _)); have t0 := hx8.m2; have tf := hx8.frozen 2; have tl : oo < w8.heap.size := hx8.lt; have K8 := Lib.hid (MKW.out _ ((hgrow8.block w.heap.size (by have := HA5.out.size; omega) (row_ge HOQ.out.row (by omega)).symm).trans (HA5.out.block w.heap.size ql)) ((hgrow8.block qe (by have := HA5.out.size; omega) (row_ge HOQ.out.row (by omega)).symm).trans (HA5.out.block qe gl)) ((hgrow8.block b (by have := HA5.out.size; omega) (row_ge HOQ.out.row (by omega)).symm).trans (HA5.out.block b bl)))
              refine hK.out _ _ ?_ (fun hH3 => ?_)
              · exact K8.out
              clear hK K hH2
              (try simp only [Act.put, List.setIfInBounds_toArray, List.set_cons_zero, List.set_cons_succ])
              refine wpAnyH_take (i := 13) (oi := ?oi20) (v := ?v20) ?hi20 (by kernel_rfl) (by kernel_rfl) (by kernel_rfl) (fun _ _ _ h => h) (Or.inl ⟨?hw20, ?hy20⟩) hH3 ?rest20
              case hi20 => (simp only [List.getElem?_toArray, List.getElem?_cons_succ, List.getElem?_cons_zero]; rfl)
              case hw20 => rfl
              case hy20 => (intro w hSw; (try dsimp only at hSw); go_simp; try with_reducible rfl)
              (try simp only [Act.put, List.setIfInBounds_toArray, List.set_cons_zero, List.set_cons_succ])
              refine wpAnyH_ready (rs := [14]) (by kernel_rfl) (by simp) ?_
              refine AllReadyH.cons (o := ?o21) ?ho21 (fun K hK => ?step21) ?more21
              case ho21 => (simp only [List.getElem?_toArray, List.getElem?_cons_succ, List.getElem?_cons_zero]; rfl)
              case step21 =>
                go_simp
                refine hK.out _ _ ?_ (fun hH5 => ?_)
                · exact MKS.out _ K8.out
                clear hK K hH3
                (try simp only [Act.put, List.setIfInBounds_toArray, List.set_cons_zero, List.set_cons_succ])
                refine wpAnyH_done (by kernel_rfl) ?_ _
                refine NoPanic.normal ?_
                have HX8 := Lib.hid hx8
                have H8 := Lib.hid hown8
                have HV8 := Lib.hid (show RowsOwn w8 (oo + 1) (us ++ [.slice v5a sol.length v5c]) ((invZ p z.length z).take k ++ [sol]) from (HOQ.out.rows.snoc HB5.out HV5.out hooq1).map fun u zs ho => row_other (World.ownsRow.alloc ho _) (World.ownsRow.alloc (row_step HOQ.out.row HB5.out) _) hgrow8 (by decide))
                have HB8 := Lib.hid (show Below oo w10 w8 from (HBL.out.trans (HA5.out.mono (by omega))).grown hgrow8 (by have := HA5.out.size; omega) (fun q hq => by have := row_lt HOQ.out.row hq; omega))
                clear hx8 hown8 hgrow8 hat8 hlt8 c2 k2 g2 q1
                go_wp2_with fail
                go_roundw
                case rel =>
                  refine ⟨k + 1, some ⟨gg, 0, none⟩, cap, us ++ [.slice v5a sol.length v5c], by omega, by go_num, HX8.out.set3d _, ⟨?_, ?_⟩, HB8.out.setCell (p := ⟨oo, 2, none⟩) (Nat.le_refl _) _⟩
                  · have h := row_set (u := .slice (some ⟨gg, 0, none⟩) (k + 1) cap) (o := 2) H8.out (Nat.lt_succ_self oo)
                    rw [HT1.out, List.length_append, HLN.out]
                    exact h
                  · rw [HT1.out]
                    exact HV8.out.map fun u zs ho => row_set ho (Nat.lt_succ_self _) _
                case measure => simp [intOf]; omega
              exact AllReadyH.nil
            exact AllReadyH.nil
          exact AllReadyH.nil
        refine AllReadyH.cons (o := ?o22) ?ho22 (fun K hK => ?step22) ?more22
        case ho22 => (simp only [List.getElem?_toArray, List.getElem?_cons_succ, List.getElem?_cons_zero]; rfl)
        case step22 =>
          go_simp
          refine hK.out _ _ ?_ (fun hH1 => ?_)
          · exact MK.out _ (HB5.out.alloc HB5.out.size _)
          clear hK K hH0
          (try simp only [Act.put, List.setIfInBounds_toArray, List.set_cons_zero, List.set_cons_succ])
          refine wpAnyH_ready (rs := [1]) (by kernel_rfl) (by simp) ?_
          refine AllReadyH.cons (o := ?o23) ?ho23 (fun K hK => ?step23) ?more23
          case ho23 => (simp only [List.getElem?_toArray, List.getElem?_cons_succ, List.getElem?_cons_zero]; rfl)
          case step23 =>
            go_simp
            refine hK.out _ _ ?_ (fun hH2 => ?_)
            · exact hH1
            clear hK K hH1
            (try simp only [Act.put, List.setIfInBounds_toArray, List.set_cons_zero, List.set_cons_succ])
            refine wpAnyH_ready (rs := [12]) (by kernel_rfl) (by simp) ?_
            refine AllReadyH.cons (o := ?o24) ?ho24 (fun K hK => ?step24) ?more24
            case ho24 => (simp only [List.getElem?_toArray, List.getElem?_cons_succ, List.getElem?_cons_zero]; rfl)
            case step24 =>
              refine step_append_lies _ (by rfl) _ _ 23 (by rfl) (oo + 1) 22 i1 (.slice none 0 0) 1 24 Try.underlying23 ji jz0 jz1 jz2 (by rfl) (by decide) (.slice va k vc) k us (by rfl) (by have h := World.ownsRow.alloc (row_step HOQ.out.row HB5.out) (.cells #[.slice v5a sol.length v5c] 22); rw [HLN.out] at h; exact h) ⟨w5.heap.size, 0, none⟩ 1 1 [.slice v5a sol.length v5c] (by rfl) (by rfl) (cell_one_new _ _ _) (by simp [Value.oneCell']) (by decide) (by unfold maxLen; omega) (by omega) (by have := HB5.out.size; simp; omega) _ rfl ?_; intro gg cap w8 hown8 hgrow8 hat8 hlt8; have HA5 := Lib.hid (HB5.out.alloc HB5.out.size (.cells #[.slice v5a sol.length v5c] 22)); have hx8 := Boxes.grown (HXQ.out.step HA5.out) hgrow8 (row_ge HOQ.out.row (Nat.lt_succ_self _)); have t0 := hx8.m2; have tf := hx8.frozen 2; have tl : oo < w8.heap.size := hx8.lt; have K8 := Lib.hid (MKW.out _ ((hgrow8.block w.heap.size (by have := HA5.out.size; omega) (row_ge HOQ.out.row (by omega)).symm).trans (HA5.out.block w.heap.size ql)) ((hgrow8.block qe (by have := HA5.out.size; omega) (row_ge HOQ.out.row (by omega)).symm).trans (HA5.out.block qe gl)) ((hgrow8.block b (by have := HA5.out.size; omega) (row_ge HOQ.out.row (by omega)).symm).trans (HA5.out.block b bl)))
              refine hK.out _ _ ?_ (fun hH3 => ?_)
              · exact K8.out
              clear hK K hH2
              (try simp only [Act.put, List.setIfInBounds_toArray, List.set_cons_zero, List.set_cons_succ])
              refine wpAnyH_take (i := 13) (oi := ?oi25) (v := ?v25) ?hi25 (by kernel_rfl) (by kernel_rfl) (by kernel_rfl) (fun _ _ _ h => h) (Or.inl ⟨?hw25, ?hy25⟩) hH3 ?rest25
              case hi25 => (simp only [List.getElem?_toArray, List.getElem?_cons_succ, List.getElem?_cons_zero]; rfl)
              case hw25 => rfl
              case hy25 => (intro w hSw; (try dsimp only at hSw); go_simp; try with_reducible rfl)
              (try simp only [Act.put, List.setIfInBounds_toArray, List.set_cons_zero, List.set_cons_succ])
              refine wpAnyH_ready (rs := [14]) (by kernel_rfl) (by simp) ?_
              refine AllReadyH.cons (o := ?o26) ?ho26 (fun K hK => ?step26) ?more26
              case ho26 => (simp only [List.getElem?_toArray, List.getElem?_cons_succ, List.getElem?_cons_zero]; rfl)
              case step26 =>
                go_simp
                refine hK.out _ _ ?_ (fun hH5 => ?_)
                · exact MKS.out _ K8.out
                clear hK K hH3
                (try simp only [Act.put, List.setIfInBounds_toArray, List.set_cons_zero, List.set_cons_succ])
                refine wpAnyH_done (by kernel_rfl) ?_ _
                refine NoPanic.normal ?_
                have HX8 := Lib.hid hx8
                have H8 := Lib.hid hown8
                have HV8 := Lib.hid (show RowsOwn w8 (oo + 1) (us ++ [.slice v5a sol.length v5c]) ((invZ p z.length z).take k ++ [sol]) from (HOQ.out.rows.snoc HB5.out HV5.out hooq1).map fun u zs ho => row_other (World.ownsRow.alloc ho _) (World.ownsRow.alloc (row_step HOQ.out.row HB5.out) _) hgrow8 (by decide))
                have HB8 := Lib.hid (show Below oo w10 w8 from (HBL.out.trans (HA5.out.mono (by omega))).grown hgrow8 (by have := HA5.out.size; omega) (fun q hq => by have := row_lt HOQ.out.row hq; omega))
                clear hx8 hown8 hgrow8 hat8 hlt8 c2 k2 g2 q1
                go_wp2_with fail
                go_roundw
                case rel =>
                  refine ⟨k + 1, some ⟨gg, 0, none⟩, cap, us ++ [.slice v5a sol.length v5c], by omega, by go_num, HX8.out.set3d _, ⟨?_, ?_⟩, HB8.out.setCell (p := ⟨oo, 2, none⟩) (Nat.le_refl _) _⟩
                  · have h := row_set (u := .slice (some ⟨gg, 0, none⟩) (k + 1) cap) (o := 2) H8.out (Nat.lt_succ_self oo)
                    rw [HT1.out, List.length_append, HLN.out]
                    exact h
                  · rw [HT1.out]
                    exact HV8.out.map fun u zs ho => row_set ho (Nat.lt_succ_self _) _
                case measure => simp [intOf]; omega
              exact AllReadyH.nil
            exact AllReadyH.nil
          exact AllReadyH.nil
        exact AllReadyH.nil
      exact AllReadyH.nil
    · have hi0 : ¬ (k : Int) < (z.length : Int) := by omega
      have hE : k = z.length := by omega
      have ho := HOQ.out
      have hxq := HXQ.out
      have hall : (invZ p z.length z).take k = invZ p z.length z := List.take_of_length_le (by rw [invZ_len]; omega)
      rw [hall, hE] at ho
      rw [hE] at hxq
      clear c2 k2
      have c0 := hxq.m0
      have c1 := hxq.m1
      have c2 := hxq.m2
      have e0 := HR1.out.m0
      have e1 := HR1.out.m1
      have e2 := HR1.out.m2
      have f0 := HR1.out.frozen 0
      have f1 := HR1.out.frozen 1
      have f2 := HR1.out.frozen 2
      have HO9 := Lib.hid ho
      clear ho hxq hall
      go_wp2_with fail
      refine bodyPost_ret (v := .tuple #[.agg #[.int .i64 p, .int .i64 (z.length : Int), .slice va z.length vc], .int .i64 0]) (by simp [results, Try.results38, go_sem, e0, e1, e2]) rfl ⟨⟨va, vc, by rw [HV.out.1, HV.out.2, HV.out.2, HV.out.2, invZ_len], ?_⟩, (((HBW.out.setCell (p := ⟨w.heap.size + 1, 0, none⟩) (by show w.heap.size ≤ w.heap.size + 1; omega) _).setCell (p := ⟨w.heap.size + 1, 1, none⟩) (by show w.heap.size ≤ w.heap.size + 1; omega) _).setCell (p := ⟨w.heap.size + 1, 2, none⟩) (by show w.heap.size ≤ w.heap.size + 1; omega) _)⟩
      rw [HV.out.2]
      have h9 := ((((HO9.out.setCell3 (p := ⟨w.heap.size + 1, 0, none⟩) (by show w.heap.size + 1 < oo + 1; omega) (.int .i64 p)).setCell3 (p := ⟨w.heap.size + 1, 1, none⟩) (by show w.heap.size + 1 < oo + 1; omega) (.int .i64 (z.length : Int))).setCell3 (p := ⟨w.heap.size + 1, 2, none⟩) (by show w.heap.size + 1 < oo + 1; omega) (.slice va z.length vc))).rows2
      obtain ⟨a', c', e, h⟩ := h9
      injection e with h1 _ _
      subst h1
      exact h
end Go.Proofs.Ytekhjoenejgmaaa

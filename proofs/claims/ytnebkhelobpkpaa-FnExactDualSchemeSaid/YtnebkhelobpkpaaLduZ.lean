/- 'laws.FnExactDualScheme': for every argument, valid or not, the program's function answers what the model's answers, writes into nothing that it was given, and what it answers owns its memory. No condition. -/
import Derived.Test.YtnebkhelobpkpaaLduY
import Derived.Deep.AppendLies
import Derived.Deep.RegionHeld3
import Derived.Deep.RegionLaw
import Derived.Deep.CutRange
namespace Go.Proofs.Ytnebkhelobpkpaa
open Go.RowKit Go.Deep Go.Joins
set_option linter.unusedVariables false




theorem transposed_eq (p : Int) (cn : Nat) (a : Option Addr) (ca m : Nat) (z : List (List Int)) (w : World) (hm : z.length = m) (hr : GridR w a p z) (hz : z.length ≤ 1000) (hcn : cn ≤ 1000) (hrow : ∀ r, r < z.length → (nthL z r).length = cn) :
    Calls Try.prog 85 #[.agg #[.slice a m ca, .int .i64 p, .int .i64 (cn : Int)]] w fun e w' => (∃ v us, e = .returned (.agg #[v, .int .i64 p, .int .i64 ((m : Nat) : Int)]) ∧ OwnG w' w.heap.size p v us (turned z cn)) ∧ Below w.heap.size w w' := by subst hm; exact transposed_any p cn a ca z w hr hz hcn hrow
theorem ownedRows_eq (ao : Option Addr) (yo : List Int) (co : Nat) (a : Option Addr) (z : List (List Int)) (c m : Nat) (w : World) (hm : z.length = m) (ho : Ints w ao yo) (hr : Rows2 w a z) (hn : yo.length = z.length) (hl : yo.length ≤ 1000) (hll : ∀ r, r < z.length → (nthL z r).length ≤ 1000) :
    Calls Try.prog 89 #[.slice ao yo.length co, .slice a m c] w fun e w' => (∃ v, e = .returned v ∧ OwnR w' w.heap.size v yo z yo.length) ∧ Below w.heap.size w w' := by subst hm; exact ownedRows_any ao yo co a z c w ho hr hn hl hll


set_option maxRecDepth 100000 in
set_option maxHeartbeats 20000000 in
theorem implDu_any (h f l : Int) (ao : Option Addr) (yo : List Int) (co : Nat) (a : Option Addr) (z : List (List Int)) (c : Nat) (w : World) (hr : InS w ao yo a z) (hl : LenS yo z) :
    Calls Try.prog 33 #[.agg #[.int .i64 h, .slice ao yo.length co, .int .i64 f, .int .i64 l, .slice a z.length c]] w (GivesSY w (dsSel h f l yo z 0 0 0 h) (dsSel h f l yo z 0 0 0 f) (dsSel h f l yo z 0 0 0 ((dsC f l.toNat z).length : Int)) (dsSel h f l yo z [] [] [] yo) (dsSel h f l yo z [] [] [] (dsD f l.toNat z)) (dsSel h f l yo z 1 4 3 0)) := by
  have HL := Lib.hid hl
  have hb2 : Below w.heap.size w ((w.alloc (.cells #[.int .i64 h, .slice ao yo.length co, .int .i64 f, .int .i64 l, .slice a z.length c] 48)).alloc (.cells #[.int .i64 0, .slice none 0 0, .int .i64 0, .int .i64 0, .slice none 0 0] 48)) := ((Below.refl w.heap.size w).alloc (Nat.le_refl _) _).alloc (by simp) _
  have hx : Boxes ((w.alloc (.cells #[.int .i64 h, .slice ao yo.length co, .int .i64 f, .int .i64 l, .slice a z.length c] 48)).alloc (.cells #[.int .i64 0, .slice none 0 0, .int .i64 0, .int .i64 0, .slice none 0 0] 48)) w.heap.size 48 #[.int .i64 h, .slice ao yo.length co, .int .i64 f, .int .i64 l, .slice a z.length c] := Boxes.step (World.alloc_heap_new w _) ((Below.refl _ _).alloc (Nat.le_refl _) _)
  have hz : Boxes ((w.alloc (.cells #[.int .i64 h, .slice ao yo.length co, .int .i64 f, .int .i64 l, .slice a z.length c] 48)).alloc (.cells #[.int .i64 0, .slice none 0 0, .int .i64 0, .int .i64 0, .slice none 0 0] 48)) (w.heap.size + 1) 48 #[.int .i64 0, .slice none 0 0, .int .i64 0, .int .i64 0, .slice none 0 0] := by
    have : Boxes ((w.alloc (.cells #[.int .i64 h, .slice ao yo.length co, .int .i64 f, .int .i64 l, .slice a z.length c] 48)).alloc (.cells #[.int .i64 0, .slice none 0 0, .int .i64 0, .int .i64 0, .slice none 0 0] 48)) (w.alloc (.cells #[.int .i64 h, .slice ao yo.length co, .int .i64 f, .int .i64 l, .slice a z.length c] 48)).heap.size 48 #[.int .i64 0, .slice none 0 0, .int .i64 0, .int .i64 0, .slice none 0 0] := World.alloc_heap_new _ _
    simp only [World.size_alloc] at this
    exact this
  have HR0 := Lib.hid hr
  have HR := Lib.hid (hr.step hb2)
  clear hr hl
  go_enter Try.func33, Try.ntmps33
  go_wp2_with fail
  refine (implVs_any h f l ao yo co a z c _ HR.out HL.out).mono ?_
  generalize ((w.alloc (.cells #[.int .i64 h, .slice ao yo.length co, .int .i64 f, .int .i64 l, .slice a z.length c] 48)).alloc (.cells #[.int .i64 0, .slice none 0 0, .int .i64 0, .int .i64 0, .slice none 0 0] 48)) = w2 at *
  rintro e w3 ⟨rfl, hb3⟩
  have HX := Lib.hid (hx.step hb3)
  have HZ := Lib.hid (hz.step hb3)
  have HB := Lib.hid (chain hb2 hb3)
  have HR3 := Lib.hid (HR.out.step hb3)
  clear hb2 hx hz hb3 HR
  have r0 := HZ.out.s0; have rf0 := HZ.out.frozen 0; have r1 := HZ.out.s1; have rf1 := HZ.out.frozen 1; have r2 := HZ.out.s2; have rf2 := HZ.out.frozen 2; have r3 := HZ.out.s3; have rf3 := HZ.out.frozen 3; have r4 := HZ.out.s4; have rf4 := HZ.out.frozen 4; have lz := HZ.out.lt
  by_cases hok : SchOk h yo f l z
  case neg =>
    have HT := Lib.hid (tell_false hok)
    have HV := Lib.hid (fun (α : Type) (b n m o : α) => ds_bad (h := h) (f := f) (l := l) (yo := yo) (z := z) hok b n m o)
    clear hok
    rw [HT.out]
    go_wp2_with fail
    refine bodyPost_ret (v := .tuple #[.agg #[.int .i64 0, .slice none 0 0, .int .i64 0, .int .i64 0, .slice none 0 0], .int .i64 1]) (by simp [results, Try.results33, go_sem, r0, r1, r2, r3, r4]) rfl ⟨⟨.slice none 0 0, .slice none 0 0, [], by simp only [HV.out], ?_, ?_, fun u hu => by cases hu⟩, below_set5 HB.out (Nat.le_succ _) _ _ _ _ _⟩
    · simp only [HV.out]; exact OwnI.nil _ _
    · simp only [HV.out]; exact Own.nil3 _ _
  have HT := Lib.hid (tell_true hok)
  have hl1 : 1 ≤ l := hok.2.2.1
  have hl12 : l ≤ 12 := hok.2.1.2.1.2
  obtain ⟨n, rfl⟩ : ∃ n : Nat, l = (n : Int) := ⟨l.toNat, by omega⟩
  have hn1 : 1 ≤ n := by omega
  have hn12 : n ≤ 12 := by omega
  have hf2 : 2 ≤ f := hok.2.1.1.1
  have hf31 : f ≤ 31 := hok.2.1.1.2.1
  have hz20 : z.length ≤ 20 := hok.2.1.2.2.1
  have HO := Lib.hid hok
  have HYZ := Lib.hid hok.2.2.2.1
  have HG := Lib.hid (ds_goodM hok)
  have HGT := Lib.hid (ds_turned hok)
  have HROW := Lib.hid (fun r (hr : r < z.length) => ((ds_goodM hok).rows r hr).1)
  clear hok
  rw [HT.out]
  have x2 := HX.out.s2
  have x3 := HX.out.s3
  have x4 := HX.out.s4
  have lx := HX.out.lt
  go_wp2_with fail
  refine (gridOf_any f (n : Int) a z c _ HR3.out.r (matr_small2 HO.out.2.1)).mono ?_
  rintro e w4 ⟨⟨v4, us4, rfl, ho4⟩, hb4⟩
  obtain ⟨ga, gc, rfl⟩ := ho4.form
  have hb5 := al_b w4 (.cells #[.slice ga z.length gc, .int .i64 f, .int .i64 (n : Int)] 102)
  have HG4 := Lib.hid (show Boxes (w4.alloc (.cells #[.slice ga z.length gc, .int .i64 f, .int .i64 (n : Int)] 102)) w4.heap.size 102 #[.slice ga z.length gc, .int .i64 f, .int .i64 (n : Int)] from World.alloc_heap_new _ _)
  have HGR := Lib.hid ((grid_of ho4).step hb5)
  replace HX := Lib.hid ((HX.out.step hb4).step hb5)
  replace HZ := Lib.hid ((HZ.out.step hb4).step hb5)
  replace HB := Lib.hid ((chain HB.out hb4).trans (hb5.mono (chain HB.out hb4).size))
  clear ho4 hb4 x2 x3 x4 lx r0 r1 r2 r3 r4 rf0 rf1 rf2 rf3 rf4 lz HR3
  go_upto_region 4 with fail
  generalize w4.heap.size = q4 at *
  generalize w4.alloc (.cells #[.slice ga z.length gc, .int .i64 f, .int .i64 (n : Int)] 102) = w5 at *
  have g0 := HG4.out.m0
  have g1 := HG4.out.m1
  have g2 := HG4.out.m2
  have gl := HG4.out.lt
  clear hb5
  go_wp2_with fail
  refine (secretElements_any f n ga z.length gc z w5 rfl HG.out (by omega) (by omega) (by omega) HGR.out).mono ?_
  rintro e w6 ⟨⟨u6, rfl, hu6⟩, hb6⟩
  have HU6 := Lib.hid hu6
  replace HX := Lib.hid (HX.out.step hb6)
  replace HZ := Lib.hid (HZ.out.step hb6)
  replace HG4 := Lib.hid (HG4.out.step hb6)
  replace HGR := Lib.hid (HGR.out.step hb6)
  replace HB := Lib.hid (chain HB.out hb6)
  clear hu6 hb6 g0 g1 g2 gl
  have r0 := HZ.out.s0; have rf0 := HZ.out.frozen 0; have r1 := HZ.out.s1; have rf1 := HZ.out.frozen 1; have r2 := HZ.out.s2; have rf2 := HZ.out.frozen 2; have r3 := HZ.out.s3; have rf3 := HZ.out.frozen 3; have r4 := HZ.out.s4; have rf4 := HZ.out.frozen 4; have lz := HZ.out.lt
  by_cases hs : SolOk f z.length (turned z n) (fstL n)
  case neg =>
    have HQ := Lib.hid (sol_no hs)
    have HV := Lib.hid (fun (α : Type) (b n' m o : α) => ds_no HO.out hs b n' m o)
    clear hs
    rw [HQ.out.2]
    go_wp2_with fail
    refine bodyPost_ret (v := .tuple #[.agg #[.int .i64 0, .slice none 0 0, .int .i64 0, .int .i64 0, .slice none 0 0], .int .i64 4]) (by simp [results, Try.results33, go_sem, r0, r1, r2, r3, r4]) rfl ⟨⟨.slice none 0 0, .slice none 0 0, [], by simp only [HV.out], ?_, ?_, fun u hu => by cases hu⟩, below_set5 HB.out (Nat.le_succ _) _ _ _ _ _⟩
    · simp only [HV.out]; exact OwnI.nil _ _
    · simp only [HV.out]; exact Own.nil3 _ _
  have HQ := Lib.hid (sol_yes hs)
  have HS := Lib.hid hs
  have hu := HU6.out
  rw [HQ.out.1] at hu
  obtain ⟨ua, uc, hu2⟩ := rowForm hu
  rw [(ds_fst HO.out).1] at hu2
  subst hu2
  have HU := Lib.hid (Ints_of_own hu)
  clear hs hu HU6
  rw [HQ.out.2]
  by_cases hz12 : z.length ≤ 12
  case neg =>
    have HV := Lib.hid (fun (α : Type) (b n' m o : α) => ds_lim HO.out HS.out (fun k => hz12 k.1) b n' m o)
    have hgt : (12 : Int) < (z.length : Int) := by omega
    go_wp2_with fail
    refine bodyPost_ret (v := .tuple #[.agg #[.int .i64 0, .slice none 0 0, .int .i64 0, .int .i64 0, .slice none 0 0], .int .i64 3]) (by simp [results, Try.results33, go_sem, r0, r1, r2, r3, r4]) rfl ⟨⟨.slice none 0 0, .slice none 0 0, [], by simp only [HV.out], ?_, ?_, fun u hu => by cases hu⟩, below_set5 HB.out (Nat.le_succ _) _ _ _ _ _⟩
    · simp only [HV.out]; exact OwnI.nil _ _
    · simp only [HV.out]; exact Own.nil3 _ _
  have hgt : ¬ (12 : Int) < (z.length : Int) := by omega
  have g0 := HG4.out.m0
  have g1 := HG4.out.m1
  have g2 := HG4.out.m2
  have gl := HG4.out.lt
  clear r0 r1 r2 r3 r4 rf0 rf1 rf2 rf3 rf4 lz
  go_wp2_with fail
  refine (transposed_any f n ga gc z w6 HGR.out (by omega) (by omega) HROW.out).mono ?_
  rintro e w7 ⟨⟨v7, us7, rfl, ho7⟩, hb7⟩
  obtain ⟨ta, tc, rfl⟩ := ho7.form
  have HT7 := Lib.hid (grid_of ho7)
  go_wp2_with fail
  refine (reduced_any f z.length ta tc (turned z n) w7 HGT.out HT7.out).mono ?_
  rintro e w8 ⟨⟨ra, rc, rus, fa, fc, fF, FF, x, rfl, hst, hog, hfi, -⟩, hb8⟩
  have HST := Lib.hid (ech_of HGT.out hst)
  have HLE := Lib.hid hst.len
  have HEL := Lib.hid (hst.elems HGT.out.elem)
  go_wp2_with fail
  refine (kernel_any f x z.length (turned z n).length rc fc w7.heap.size ra fa rus fF FF (turned z n) w8 hog hfi HST.out.1 HST.out.2 HLE.out HEL.out hf2 hf31 (by rw [turned_len]; omega) (by omega)).mono ?_
  rintro e w9 ⟨⟨ka, kc, kus, rfl, hok⟩, hb9⟩
  have hbx := (hb7.trans (hb8.mono hb7.size)).trans (hb9.mono (Nat.le_trans hb7.size hb8.size))
  have hb10 := al_b w9 (.cells #[.slice ka (kerZ f z.length (turned z n)).length kc, .int .i64 f, .int .i64 (z.length : Int)] 102)
  have HK := Lib.hid (show Boxes (w9.alloc (.cells #[.slice ka (kerZ f z.length (turned z n)).length kc, .int .i64 f, .int .i64 (z.length : Int)] 102)) w9.heap.size 102 #[.slice ka (kerZ f z.length (turned z n)).length kc, .int .i64 f, .int .i64 (z.length : Int)] from World.alloc_heap_new _ _)
  have HKR := Lib.hid ((grid_of hok).step hb10)
  replace HX := Lib.hid ((HX.out.step hbx).step hb10)
  replace HZ := Lib.hid ((HZ.out.step hbx).step hb10)
  replace HU := Lib.hid ((HU.out.step hbx).step hb10)
  replace HB := Lib.hid ((chain HB.out hbx).trans (hb10.mono (chain HB.out hbx).size))
  clear hok hst hog hfi hbx hb7 hb8 hb9 g0 g1 g2 gl ho7 HG4 HGR HT7 HST HLE HEL
  go_upto_region 10 with fail
  generalize w9.heap.size = q7 at *
  generalize w9.alloc (.cells #[.slice ka (kerZ f z.length (turned z n)).length kc, .int .i64 f, .int .i64 (z.length : Int)] 102) = w10 at *
  clear hb10
  obtain ⟨k, hk⟩ : ∃ k, (kerZ f z.length (turned z n)).length = k := ⟨_, rfl⟩
  have HKL := Lib.hid hk
  have hk12 : k ≤ 20 := by have := (ds_matK HO.out hz12).2.2.1; omega
  rw [hk] at HK
  rw [hk]
  clear hk
  have HSK := Lib.hid (kerZ_small (p := f) (n := z.length) (z := turned z n) (by omega))
  have HCG := Lib.hid (dsC_good HO.out hz12)
  have HCL := Lib.hid (show (dsC f n z).length = 1 + k from by rw [dsC_len, HKL.out, Nat.add_comm])
  have HSC := Lib.hid (show Small2 (dsC f n z) from ⟨by rw [HCL.out]; omega, fun r hr => by rw [(HCG.out.rows r hr).1]; omega⟩)
  obtain ⟨i1, ji, jz0, jz1, jz2⟩ := info_parts Try.infoInt64S
  have x2 := HX.out.s2
  have lx := HX.out.lt
  have y0 := HK.out.m0
  have yl := HK.out.lt
  have lx1 : w.heap.size < w10.heap.size + 1 := Nat.lt_succ_of_lt lx
  have lx2 : w.heap.size < w10.heap.size + 1 + 1 := Nat.lt_succ_of_lt lx1
  have yl1 : q7 < w10.heap.size + 1 := Nat.lt_succ_of_lt yl
  have yl2 : q7 < w10.heap.size + 1 + 1 := Nat.lt_succ_of_lt yl1
  go_upto_region 10 with fail
  go_cut [8] from 32 to 43 (fun s8 wr => ∃ (q8 : Nat) (va : Option Addr) (vc : Nat), s8 = .pointer (some ⟨q8, 0, none⟩) ∧ Boxes wr q8 102 #[.slice va (1 + k) vc, .int .i64 f, .int .i64 (z.length : Int)] ∧ GridR wr va f (dsC f n z) ∧ Below w10.heap.size w10 wr)
  case first =>
    have MK := Lib.hid (show ∀ w' : World, Below w10.heap.size w10 w' → Below w10.heap.size w10 w' ∧ w'.cell? ⟨w.heap.size, 2, none⟩ = some (.int .i64 f) ∧ w'.cell? ⟨q7, 0, none⟩ = some (.slice ka k kc) from fun w' hw => ⟨hw, (HX.out.step hw).s2, (HK.out.step hw).m0⟩)
    go_region_held3 (fun w' => Below w10.heap.size w10 w' ∧ w'.cell? ⟨w.heap.size, 2, none⟩ = some (.int .i64 f) ∧ w'.cell? ⟨q7, 0, none⟩ = some (.slice ka k kc)) ((refine MK.out _ ?_; first | with_reducible exact drew_step _ | with_reducible exact ((Below.refl _ _).alloc (Nat.le_refl _) _).drew | with_reducible exact (((Below.refl _ _).alloc (Nat.le_refl _) _).alloc (by simp) _).drew | with_reducible exact HB11.out | with_reducible exact HB11.out.alloc HB11.out.size _ | with_reducible exact (HB11.out.alloc HB11.out.size _).alloc (by first | omega | (simp <;> omega) | (simp; done)) _ | with_reducible exact HB12.out | with_reducible exact HB12.out.alloc HB12.out.size _ | with_reducible exact HB13.out | with_reducible exact HB13.out.alloc HB13.out.size _ | with_reducible exact below_sets HB13.out (by first | omega | (simp <;> omega) | (simp; done)) _ _ _ | fail)) (first | (go_at_call 76; (with_reducible show Calls _ _ _ (World.drew (World.alloc (World.alloc (w10) (.cells #[.slice ua z.length uc] 35)) (.cells #[.slice none 0 0, .int .i64 0, .int .i64 0] 102))) _); refine (lists_eq f ka (kerZ f z.length (turned z n)) kc k _ HKL.out (HKR.out.below (B := w10.heap.size) (by repeat (first | exact Below.refl _ _ | refine Below.drew ?_ | refine Below.alloc ?_ (by first | omega | (simp <;> omega) | (simp; done)) _)) (Nat.le_refl _)) HSK.out).mono ?_; rintro e w11 ⟨⟨v11, us11, rfl, ho11⟩, hb11⟩; obtain ⟨la, lc, hv11⟩ := ho11.form; rw [HKL.out] at hv11; subst hv11; have HB11 := Lib.hid (show Below w10.heap.size w10 w11 from Below.trans (by repeat (first | exact Below.refl _ _ | refine Below.drew ?_ | refine Below.alloc ?_ (by first | omega | (simp <;> omega) | (simp; done)) _)) (hb11.mono (by first | omega | (simp <;> omega) | (simp; done)))); have HO11 := Lib.hid (show Own w11 w10.heap.size (.slice la k lc) us11 (kerZ f z.length (turned z n)) from ho11.mono3 (by first | omega | (simp <;> omega) | (simp; done))); have HRW11 := Lib.hid (show w11.ownsRow w10.heap.size 35 1 (.slice la k lc) k us11 from by have h9 := HO11.out.row; rw [HKL.out] at h9; exact h9); have HF := Lib.hid (kb1 w10 w11 #[.slice ua z.length uc] #[.slice none 0 0, .int .i64 0, .int .i64 0] 35 102 hb11); have HZ11 := Lib.hid (kb2 w10 w11 #[.slice none 0 0, .int .i64 0, .int .i64 0] #[.slice ua z.length uc] 102 35 hb11); have hfl := HF.out.lt; have hzl := HZ11.out.lt; clear ho11 hb11; have hs11 := HB11.out.size) | (go_at_call 76; (with_reducible show Calls _ _ _ (World.drew (World.alloc (World.alloc (w10) (.cells #[.slice none 0 0, .int .i64 0, .int .i64 0] 102)) (.cells #[.slice ua z.length uc] 35))) _); refine (lists_eq f ka (kerZ f z.length (turned z n)) kc k _ HKL.out (HKR.out.below (B := w10.heap.size) (by repeat (first | exact Below.refl _ _ | refine Below.drew ?_ | refine Below.alloc ?_ (by first | omega | (simp <;> omega) | (simp; done)) _)) (Nat.le_refl _)) HSK.out).mono ?_; rintro e w11 ⟨⟨v11, us11, rfl, ho11⟩, hb11⟩; obtain ⟨la, lc, hv11⟩ := ho11.form; rw [HKL.out] at hv11; subst hv11; have HB11 := Lib.hid (show Below w10.heap.size w10 w11 from Below.trans (by repeat (first | exact Below.refl _ _ | refine Below.drew ?_ | refine Below.alloc ?_ (by first | omega | (simp <;> omega) | (simp; done)) _)) (hb11.mono (by first | omega | (simp <;> omega) | (simp; done)))); have HO11 := Lib.hid (show Own w11 w10.heap.size (.slice la k lc) us11 (kerZ f z.length (turned z n)) from ho11.mono3 (by first | omega | (simp <;> omega) | (simp; done))); have HRW11 := Lib.hid (show w11.ownsRow w10.heap.size 35 1 (.slice la k lc) k us11 from by have h9 := HO11.out.row; rw [HKL.out] at h9; exact h9); have HZ11 := Lib.hid (kb1 w10 w11 #[.slice none 0 0, .int .i64 0, .int .i64 0] #[.slice ua z.length uc] 102 35 hb11); have HF := Lib.hid (kb2 w10 w11 #[.slice ua z.length uc] #[.slice none 0 0, .int .i64 0, .int .i64 0] 35 102 hb11); have hfl := HF.out.lt; have hzl := HZ11.out.lt; clear ho11 hb11; have hs11 := HB11.out.size) | (go_at_call 76; (with_reducible show Calls _ _ _ (World.drew (World.alloc (w10) (.cells #[.slice ua z.length uc] 35))) _); refine (lists_eq f ka (kerZ f z.length (turned z n)) kc k _ HKL.out (HKR.out.below (B := w10.heap.size) (by repeat (first | exact Below.refl _ _ | refine Below.drew ?_ | refine Below.alloc ?_ (by first | omega | (simp <;> omega) | (simp; done)) _)) (Nat.le_refl _)) HSK.out).mono ?_; rintro e w11 ⟨⟨v11, us11, rfl, ho11⟩, hb11⟩; obtain ⟨la, lc, hv11⟩ := ho11.form; rw [HKL.out] at hv11; subst hv11; have HB11 := Lib.hid (show Below w10.heap.size w10 w11 from Below.trans (by repeat (first | exact Below.refl _ _ | refine Below.drew ?_ | refine Below.alloc ?_ (by first | omega | (simp <;> omega) | (simp; done)) _)) (hb11.mono (by first | omega | (simp <;> omega) | (simp; done)))); have HO11 := Lib.hid (show Own w11 w10.heap.size (.slice la k lc) us11 (kerZ f z.length (turned z n)) from ho11.mono3 (by first | omega | (simp <;> omega) | (simp; done))); have HRW11 := Lib.hid (show w11.ownsRow w10.heap.size 35 1 (.slice la k lc) k us11 from by have h9 := HO11.out.row; rw [HKL.out] at h9; exact h9); have HF := Lib.hid (sh_alloc_b w10 w11 #[.slice ua z.length uc] 35 hb11); have hfl := HF.out.lt; clear ho11 hb11; have hs11 := HB11.out.size) | (go_at_call 76; (with_reducible show Calls _ _ _ (World.drew (World.alloc (w10) (.cells #[.slice none 0 0, .int .i64 0, .int .i64 0] 102))) _); refine (lists_eq f ka (kerZ f z.length (turned z n)) kc k _ HKL.out (HKR.out.below (B := w10.heap.size) (by repeat (first | exact Below.refl _ _ | refine Below.drew ?_ | refine Below.alloc ?_ (by first | omega | (simp <;> omega) | (simp; done)) _)) (Nat.le_refl _)) HSK.out).mono ?_; rintro e w11 ⟨⟨v11, us11, rfl, ho11⟩, hb11⟩; obtain ⟨la, lc, hv11⟩ := ho11.form; rw [HKL.out] at hv11; subst hv11; have HB11 := Lib.hid (show Below w10.heap.size w10 w11 from Below.trans (by repeat (first | exact Below.refl _ _ | refine Below.drew ?_ | refine Below.alloc ?_ (by first | omega | (simp <;> omega) | (simp; done)) _)) (hb11.mono (by first | omega | (simp <;> omega) | (simp; done)))); have HO11 := Lib.hid (show Own w11 w10.heap.size (.slice la k lc) us11 (kerZ f z.length (turned z n)) from ho11.mono3 (by first | omega | (simp <;> omega) | (simp; done))); have HRW11 := Lib.hid (show w11.ownsRow w10.heap.size 35 1 (.slice la k lc) k us11 from by have h9 := HO11.out.row; rw [HKL.out] at h9; exact h9); have HZ11 := Lib.hid (sh_alloc_b w10 w11 #[.slice none 0 0, .int .i64 0, .int .i64 0] 102 hb11); have hzl := HZ11.out.lt; clear ho11 hb11; have hs11 := HB11.out.size) | (go_at_call 76; (with_reducible show Calls _ _ _ (World.drew w10) _); refine (lists_eq f ka (kerZ f z.length (turned z n)) kc k _ HKL.out (HKR.out.below (B := w10.heap.size) (by repeat (first | exact Below.refl _ _ | refine Below.drew ?_ | refine Below.alloc ?_ (by first | omega | (simp <;> omega) | (simp; done)) _)) (Nat.le_refl _)) HSK.out).mono ?_; rintro e w11 ⟨⟨v11, us11, rfl, ho11⟩, hb11⟩; obtain ⟨la, lc, hv11⟩ := ho11.form; rw [HKL.out] at hv11; subst hv11; have HB11 := Lib.hid (show Below w10.heap.size w10 w11 from Below.trans (by repeat (first | exact Below.refl _ _ | refine Below.drew ?_ | refine Below.alloc ?_ (by first | omega | (simp <;> omega) | (simp; done)) _)) (hb11.mono (by first | omega | (simp <;> omega) | (simp; done)))); have HO11 := Lib.hid (show Own w11 w10.heap.size (.slice la k lc) us11 (kerZ f z.length (turned z n)) from ho11.mono3 (by first | omega | (simp <;> omega) | (simp; done))); have HRW11 := Lib.hid (show w11.ownsRow w10.heap.size 35 1 (.slice la k lc) k us11 from by have h9 := HO11.out.row; rw [HKL.out] at h9; exact h9); clear ho11 hb11; have hs11 := HB11.out.size) | ((with_reducible show (if Region.wanted _ _ = true then Oper.wp _ _ _ (w11) _ _ else _)); refine step_append_both (by rfl) _ _ 36 (by rfl) w10.heap.size 35 i1 (.slice none 0 0) 24 Try.underlying36 ji jz0 jz1 jz2 rfl _ 1 1 [.slice ua z.length uc] (by first | rfl | simp [Act.eval]) (own_box (HF.out) (by first | omega | (simp <;> omega) | (simp; done))) w10.heap.size la k lc us11 (by first | rfl | simp [Act.eval]) (HRW11.out) (rows_cells HO11.out.rows) (by unfold maxLen; omega) (by omega) (by first | omega | (simp <;> omega) | (simp; done)) ?_; intro g12 cap12 w12 hW12 hg12 hown12 hgrow12; have HRO12 := Lib.hid (show RowsOwn w12 w10.heap.size us11 (kerZ f z.length (turned z n)) from HO11.out.rows.map fun u zs ho => row_other (show w11.ownsRow w10.heap.size 2 1 u zs.length (vals zs) from ho) hW12 hgrow12 (by decide)); have HB12 := Lib.hid (show Below w10.heap.size w10 w12 from Below.grown (by repeat (first | exact HB11.out | refine Below.alloc ?_ (by first | omega | (simp <;> omega) | (simp; done)) _)) hgrow12 (by first | omega | (simp <;> omega) | (simp; done)) (fun q hq => by have := Option.some.inj hq; omega)); (first | have HZ12 := Lib.hid (Boxes.grown (HZ11.out) hgrow12 (fun e9 => by have := Option.some.inj e9; omega)) | skip); have HRW12 := Lib.hid (ds_rows (ds_fst HO.out).1 hown12 (HU.out.step HB12.out) HRO12.out HKL.out); clear hW12 hown12 hgrow12; have hs12 := HB12.out.size) | ((with_reducible show (if Region.wanted _ _ = true then Oper.wp _ _ _ (World.alloc (w11) (.cells #[.slice none 0 0, .int .i64 0, .int .i64 0] 102)) _ _ else _)); refine step_append_both (by rfl) _ _ 36 (by rfl) w10.heap.size 35 i1 (.slice none 0 0) 24 Try.underlying36 ji jz0 jz1 jz2 rfl _ 1 1 [.slice ua z.length uc] (by first | rfl | simp [Act.eval]) (own_box (HF.out.step (alx_b _ _)) (by first | omega | (simp <;> omega) | (simp; done))) w10.heap.size la k lc us11 (by first | rfl | simp [Act.eval]) (World.ownsRow.alloc (HRW11.out) _) (rows_cells HO11.out.rows) (by unfold maxLen; omega) (by omega) (by first | omega | (simp <;> omega) | (simp; done)) ?_; intro g12 cap12 w12 hW12 hg12 hown12 hgrow12; have HRO12 := Lib.hid (show RowsOwn w12 w10.heap.size us11 (kerZ f z.length (turned z n)) from HO11.out.rows.map fun u zs ho => row_other (World.ownsRow.alloc (show w11.ownsRow w10.heap.size 2 1 u zs.length (vals zs) from ho) _) hW12 hgrow12 (by decide)); have HB12 := Lib.hid (show Below w10.heap.size w10 w12 from Below.grown (by repeat (first | exact HB11.out | refine Below.alloc ?_ (by first | omega | (simp <;> omega) | (simp; done)) _)) hgrow12 (by first | omega | (simp <;> omega) | (simp; done)) (fun q hq => by have := Option.some.inj hq; omega)); (first | have HZ12 := Lib.hid (Boxes.grown (bx_new w11 #[.slice none 0 0, .int .i64 0, .int .i64 0] 102) hgrow12 (fun e9 => by have := Option.some.inj e9; omega)) | skip); have HRW12 := Lib.hid (ds_rows (ds_fst HO.out).1 hown12 (HU.out.step HB12.out) HRO12.out HKL.out); clear hW12 hown12 hgrow12; have hs12 := HB12.out.size) | ((with_reducible show (if Region.wanted _ _ = true then Oper.wp _ _ _ (World.alloc (w11) (.cells #[.slice ua z.length uc] 35)) _ _ else _)); refine step_append_both (by rfl) _ _ 36 (by rfl) w10.heap.size 35 i1 (.slice none 0 0) 24 Try.underlying36 ji jz0 jz1 jz2 rfl _ 1 1 [.slice ua z.length uc] (by first | rfl | simp [Act.eval]) (own_box (bx_new w11 #[.slice ua z.length uc] 35) (by first | omega | (simp <;> omega) | (simp; done))) w10.heap.size la k lc us11 (by first | rfl | simp [Act.eval]) (World.ownsRow.alloc (HRW11.out) _) (rows_cells HO11.out.rows) (by unfold maxLen; omega) (by omega) (by first | omega | (simp <;> omega) | (simp; done)) ?_; intro g12 cap12 w12 hW12 hg12 hown12 hgrow12; have HRO12 := Lib.hid (show RowsOwn w12 w10.heap.size us11 (kerZ f z.length (turned z n)) from HO11.out.rows.map fun u zs ho => row_other (World.ownsRow.alloc (show w11.ownsRow w10.heap.size 2 1 u zs.length (vals zs) from ho) _) hW12 hgrow12 (by decide)); have HB12 := Lib.hid (show Below w10.heap.size w10 w12 from Below.grown (by repeat (first | exact HB11.out | refine Below.alloc ?_ (by first | omega | (simp <;> omega) | (simp; done)) _)) hgrow12 (by first | omega | (simp <;> omega) | (simp; done)) (fun q hq => by have := Option.some.inj hq; omega)); (first | have HZ12 := Lib.hid (Boxes.grown (HZ11.out.step (alx_b _ _)) hgrow12 (fun e9 => by have := Option.some.inj e9; omega)) | skip); have HRW12 := Lib.hid (ds_rows (ds_fst HO.out).1 hown12 (HU.out.step HB12.out) HRO12.out HKL.out); clear hW12 hown12 hgrow12; have hs12 := HB12.out.size) | ((with_reducible show (if Region.wanted _ _ = true then Oper.wp _ _ _ (World.alloc (World.alloc (w11) (.cells #[.slice ua z.length uc] 35)) (.cells #[.slice none 0 0, .int .i64 0, .int .i64 0] 102)) _ _ else _)); refine step_append_both (by rfl) _ _ 36 (by rfl) w10.heap.size 35 i1 (.slice none 0 0) 24 Try.underlying36 ji jz0 jz1 jz2 rfl _ 1 1 [.slice ua z.length uc] (by first | rfl | simp [Act.eval]) (own_box ((bx_new w11 #[.slice ua z.length uc] 35).step (alx_b _ _)) (by first | omega | (simp <;> omega) | (simp; done))) w10.heap.size la k lc us11 (by first | rfl | simp [Act.eval]) (World.ownsRow.alloc (World.ownsRow.alloc (HRW11.out) _) _) (rows_cells HO11.out.rows) (by unfold maxLen; omega) (by omega) (by first | omega | (simp <;> omega) | (simp; done)) ?_; intro g12 cap12 w12 hW12 hg12 hown12 hgrow12; have HRO12 := Lib.hid (show RowsOwn w12 w10.heap.size us11 (kerZ f z.length (turned z n)) from HO11.out.rows.map fun u zs ho => row_other (World.ownsRow.alloc (World.ownsRow.alloc (show w11.ownsRow w10.heap.size 2 1 u zs.length (vals zs) from ho) _) _) hW12 hgrow12 (by decide)); have HB12 := Lib.hid (show Below w10.heap.size w10 w12 from Below.grown (by repeat (first | exact HB11.out | refine Below.alloc ?_ (by first | omega | (simp <;> omega) | (simp; done)) _)) hgrow12 (by first | omega | (simp <;> omega) | (simp; done)) (fun q hq => by have := Option.some.inj hq; omega)); (first | have HZ12 := Lib.hid (Boxes.grown (bx_two w11 #[.slice ua z.length uc] #[.slice none 0 0, .int .i64 0, .int .i64 0] 35 102) hgrow12 (fun e9 => by have := Option.some.inj e9; omega)) | skip); have HRW12 := Lib.hid (ds_rows (ds_fst HO.out).1 hown12 (HU.out.step HB12.out) HRO12.out HKL.out); clear hW12 hown12 hgrow12; have hs12 := HB12.out.size) | ((with_reducible show (if Region.wanted _ _ = true then Oper.wp _ _ _ (World.alloc (World.alloc (w11) (.cells #[.slice none 0 0, .int .i64 0, .int .i64 0] 102)) (.cells #[.slice ua z.length uc] 35)) _ _ else _)); refine step_append_both (by rfl) _ _ 36 (by rfl) w10.heap.size 35 i1 (.slice none 0 0) 24 Try.underlying36 ji jz0 jz1 jz2 rfl _ 1 1 [.slice ua z.length uc] (by first | rfl | simp [Act.eval]) (own_box (bx_two w11 #[.slice none 0 0, .int .i64 0, .int .i64 0] #[.slice ua z.length uc] 102 35) (by first | omega | (simp <;> omega) | (simp; done))) w10.heap.size la k lc us11 (by first | rfl | simp [Act.eval]) (World.ownsRow.alloc (World.ownsRow.alloc (HRW11.out) _) _) (rows_cells HO11.out.rows) (by unfold maxLen; omega) (by omega) (by first | omega | (simp <;> omega) | (simp; done)) ?_; intro g12 cap12 w12 hW12 hg12 hown12 hgrow12; have HRO12 := Lib.hid (show RowsOwn w12 w10.heap.size us11 (kerZ f z.length (turned z n)) from HO11.out.rows.map fun u zs ho => row_other (World.ownsRow.alloc (World.ownsRow.alloc (show w11.ownsRow w10.heap.size 2 1 u zs.length (vals zs) from ho) _) _) hW12 hgrow12 (by decide)); have HB12 := Lib.hid (show Below w10.heap.size w10 w12 from Below.grown (by repeat (first | exact HB11.out | refine Below.alloc ?_ (by first | omega | (simp <;> omega) | (simp; done)) _)) hgrow12 (by first | omega | (simp <;> omega) | (simp; done)) (fun q hq => by have := Option.some.inj hq; omega)); (first | have HZ12 := Lib.hid (Boxes.grown ((bx_new w11 #[.slice none 0 0, .int .i64 0, .int .i64 0] 102).step (alx_b _ _)) hgrow12 (fun e9 => by have := Option.some.inj e9; omega)) | skip); have HRW12 := Lib.hid (ds_rows (ds_fst HO.out).1 hown12 (HU.out.step HB12.out) HRO12.out HKL.out); clear hW12 hown12 hgrow12; have hs12 := HB12.out.size) | (go_at_call 75; (with_reducible show Calls _ _ _ (w12) _); refine (gridOfLists_eq f (z.length : Int) (some ⟨g12, 0, none⟩) (dsC f n z) cap12 (1 + k) _ HCL.out (HRW12.out) HSC.out).mono ?_; rintro e w13 ⟨⟨v13, us13, rfl, ho13⟩, hb13⟩; obtain ⟨va, vc, hv13⟩ := ho13.form; rw [HCL.out] at hv13; subst hv13; have HB13 := Lib.hid (show Below w10.heap.size w10 w13 from HB12.out.trans (Below.trans (by repeat (first | exact Below.refl _ _ | refine Below.drew ?_ | refine Below.alloc ?_ (by first | omega | (simp <;> omega) | (simp; done)) _)) (hb13.mono (by first | omega | (simp <;> omega) | (simp; done))))); have HO13 := Lib.hid ho13; (first | have HZ13 := Lib.hid (HZ12.out.step hb13) | skip); (first | (have k0 := HZ13.out.m0; have k1 := HZ13.out.m1; have k2 := HZ13.out.m2; have kf0 := HZ13.out.frozen 0; have kf1 := HZ13.out.frozen 1; have kf2 := HZ13.out.frozen 2; have kl := HZ13.out.lt) | skip); have hs13 := HB13.out.size; clear ho13 hb13) | (go_at_call 75; (with_reducible show Calls _ _ _ (World.alloc (w12) (.cells #[.slice none 0 0, .int .i64 0, .int .i64 0] 102)) _); refine (gridOfLists_eq f (z.length : Int) (some ⟨g12, 0, none⟩) (dsC f n z) cap12 (1 + k) _ HCL.out (HRW12.out.step (alx_b _ _)) HSC.out).mono ?_; rintro e w13 ⟨⟨v13, us13, rfl, ho13⟩, hb13⟩; obtain ⟨va, vc, hv13⟩ := ho13.form; rw [HCL.out] at hv13; subst hv13; have HB13 := Lib.hid (show Below w10.heap.size w10 w13 from HB12.out.trans (Below.trans (by repeat (first | exact Below.refl _ _ | refine Below.drew ?_ | refine Below.alloc ?_ (by first | omega | (simp <;> omega) | (simp; done)) _)) (hb13.mono (by first | omega | (simp <;> omega) | (simp; done))))); have HO13 := Lib.hid ho13; (first | have HZ13 := Lib.hid (Boxes.step (bx_new w12 #[.slice none 0 0, .int .i64 0, .int .i64 0] 102) hb13) | skip); (first | (have k0 := HZ13.out.m0; have k1 := HZ13.out.m1; have k2 := HZ13.out.m2; have kf0 := HZ13.out.frozen 0; have kf1 := HZ13.out.frozen 1; have kf2 := HZ13.out.frozen 2; have kl := HZ13.out.lt) | skip); have hs13 := HB13.out.size; clear ho13 hb13) | fail)
    all_goals (
      go_wp2_with fail
      go_meet
      first
        | exact ⟨_, va, vc, rfl, box_sets HZ13.out _ _ _, grid_of (own_sets HO13.out HZ13.out _ _ _), below_sets HB13.out (by first | omega | (simp <;> omega) | (simp; done)) _ _ _⟩
        | exact ⟨w13.heap.size, va, vc, rfl, World.alloc_heap_new w13 _, (grid_of HO13.out).step (alx_b _ _), HB13.out.alloc HB13.out.size _⟩)
  case rest =>
    obtain ⟨q8, va, vc, rfl, hbx, hgr, hb⟩ := hcut
    generalize hKK : 1 + k = K at *
    have hK20 : K ≤ 21 := by omega
    have HBX := Lib.hid hbx
    have HGR := Lib.hid hgr
    have HXB := Lib.hid (HX.out.step hb)
    have HZB := Lib.hid (HZ.out.step hb)
    have HBB := Lib.hid (chain HB.out hb)
    have HYB := Lib.hid (HR0.out.o.below HBB.out (Nat.le_refl _))
    have HDG := Lib.hid (dsD_good HO.out hz12)
    have HSD := Lib.hid (show Small2 (dsD f n z) from ⟨by rw [dsD_len]; omega, fun r hr => by rw [(HDG.out.rows r hr).1, HCL.out]; omega⟩)
    have hbz : w.heap.size + 2 ≤ wc.heap.size := HZB.out.lt
    have hq8 : q8 ≠ w.heap.size + 1 := fun e9 => by
      have h1 := HZB.out
      have h2 := HBX.out
      rw [e9] at h2
      unfold Boxes at h1 h2
      rw [h1] at h2
      cases h2
    clear hbx hgr hb x2 lx y0 yl lx1 lx2 yl1 yl2
    by_cases hlim : (dsC f n z).length ≤ 12
    case pos =>
      have HV := Lib.hid (fun (α : Type) (b n' m o : α) => ds_ok HO.out HS.out ⟨hz12, hlim⟩ b n' m o)
      go_upto_region 11 with fail
      have MK := Lib.hid (show ∀ w' : World, Below wc.heap.size wc w' → w'.cell? ⟨w.heap.size, 0, none⟩ = some (.int .i64 h) ∧ w'.cell? ⟨w.heap.size, 1, none⟩ = some (.slice ao yo.length co) ∧ w'.cell? ⟨w.heap.size, 2, none⟩ = some (.int .i64 f) ∧ w'.cell? ⟨q8, 0, none⟩ = some (.slice va K vc) ∧ w'.cell? ⟨q8, 1, none⟩ = some (.int .i64 f) ∧ w'.cell? ⟨q8, 2, none⟩ = some (.int .i64 (z.length : Int)) from fun w' hw => ⟨(HXB.out.step hw).s0, (HXB.out.step hw).s1, (HXB.out.step hw).s2, (HBX.out.step hw).m0, (HBX.out.step hw).m1, (HBX.out.step hw).m2⟩)
      go_region_held3 (fun w' => w'.cell? ⟨w.heap.size, 0, none⟩ = some (.int .i64 h) ∧ w'.cell? ⟨w.heap.size, 1, none⟩ = some (.slice ao yo.length co) ∧ w'.cell? ⟨w.heap.size, 2, none⟩ = some (.int .i64 f) ∧ w'.cell? ⟨q8, 0, none⟩ = some (.slice va K vc) ∧ w'.cell? ⟨q8, 1, none⟩ = some (.int .i64 f) ∧ w'.cell? ⟨q8, 2, none⟩ = some (.int .i64 (z.length : Int))) (first | (refine MK.out _ ?_; first | with_reducible exact drew_step _ | with_reducible exact HB14.out | with_reducible exact HB15.out | with_reducible exact HB16.out | with_reducible exact HB17.out | fail) | exact ⟨cell_set5 (HXB.out.step HB17.out).s0 (by omega) _ _ _ _ _, cell_set5 (HXB.out.step HB17.out).s1 (by omega) _ _ _ _ _, cell_set5 (HXB.out.step HB17.out).s2 (by omega) _ _ _ _ _, cell_set5 (HBX.out.step HB17.out).m0 (by omega) _ _ _ _ _, cell_set5 (HBX.out.step HB17.out).m1 (by omega) _ _ _ _ _, cell_set5 (HBX.out.step HB17.out).m2 (by omega) _ _ _ _ _⟩ | fail) (first
        | (go_at_call 85; refine (transposed_eq f z.length va vc K (dsC f n z) _ HCL.out (HGR.out.step (drew_step _)) (by rw [HCL.out]; omega) (by omega) (fun r hr => (HCG.out.rows r hr).1)).mono ?_; rintro e w14 ⟨⟨v14, us14, rfl, ho14⟩, hb14⟩; obtain ⟨da, dc, hf14⟩ := ho14.form; have hdl : (turned (dsC f n z) z.length).length = z.length := turned_len _ _; rw [hdl] at hf14; subst hf14; have hfl := run_field_g (.slice da z.length dc) f ((K : Nat) : Int); have HB14 := Lib.hid (show Below wc.heap.size wc w14 from (drew_step wc).trans hb14); have HD14 := Lib.hid (show GridR w14 da f (dsD f n z) from grid_of (n := z.length) (by have h9 := ho14; exact h9)); clear ho14 hb14 hdl; have hs14 := HB14.out.size)
        | (go_at_call 76; refine (lists_eq f da (dsD f n z) dc z.length w14 dsD_len HD14.out HSD.out).mono ?_; rintro e w15 ⟨⟨v15, us15, rfl, ho15⟩, hb15⟩; obtain ⟨la2, lc2, hf15⟩ := ho15.form; rw [dsD_len] at hf15; subst hf15; have HB15 := Lib.hid (show Below wc.heap.size wc w15 from HB14.out.trans (hb15.mono hs14)); have HR15 := Lib.hid ho15.rows2v; clear ho15 hb15; have hs15 := HB15.out.size)
        | (go_at_call 89; refine (ownedRows_eq ao yo co la2 (dsD f n z) lc2 z.length w15 dsD_len (HYB.out.step HB15.out) HR15.out (by rw [dsD_len]; exact HYZ.out) (by rw [HYZ.out]; omega) (fun r hr => by rw [(HDG.out.rows r hr).1, HCL.out]; omega)).mono ?_; rintro e w16 ⟨⟨v16, rfl, ho16⟩, hb16⟩; obtain ⟨ra, rc, hf16⟩ := rowForm ho16; subst hf16; have HB16 := Lib.hid (show Below wc.heap.size wc w16 from HB15.out.trans (hb16.mono hs15)); have HR16 := Lib.hid (show OwnR w16 wc.heap.size (.slice ra yo.length rc) yo (dsD f n z) yo.length from ownsRow_mono ho16 hs15); clear ho16 hb16; have hs16 := HB16.out.size)
        | (go_at_call 88; refine (newScheme_eq h f ((K : Nat) : Int) (dsC f n z).length ra yo.length rc wc.heap.size yo (dsD f n z) w16 (by rw [HCL.out]) hlim (by rw [HYZ.out]; omega) HR16.out rfl (by rw [dsD_len]; exact HYZ.out.symm) (fun r hr => (HDG.out.rows r (by rw [dsD_len]; have := HYZ.out; omega)).1)).mono ?_; rintro e w17 ⟨⟨vo, v, us, rfl, hoI, hoR, hS⟩, hb17⟩; obtain ⟨oa, oc, rfl⟩ := rowForm hoI; obtain ⟨da2, dc2, hd17⟩ := hoR.form; rw [dsD_len] at hd17; subst hd17; have HI17 := Lib.hid hoI; have HD17 := Lib.hid hoR; have HS17 := Lib.hid hS; clear hoI hoR hS; have HB17 := Lib.hid (show Below wc.heap.size wc w17 from HB16.out.trans (hb17.mono hs16)); have UZ := HZB.out.step HB17.out; have r0 := UZ.s0; have rf0 := UZ.frozen 0; have r1 := UZ.s1; have rf1 := UZ.frozen 1; have r2 := UZ.s2; have rf2 := UZ.frozen 2; have r3 := UZ.s3; have rf3 := UZ.frozen 3; have r4 := UZ.s4; have rf4 := UZ.frozen 4; have lz := UZ.lt; clear UZ hb17))
      all_goals (
        go_wp2_with fail
        refine bodyPost_ret (v := .tuple #[.agg #[.int .i64 h, .slice oa yo.length oc, .int .i64 f, .int .i64 ((K : Nat) : Int), .slice da2 z.length dc2], .int .i64 0]) (by simp [results, Try.results33, go_sem, r0, r1, r2, r3, r4]) rfl ⟨⟨.slice oa yo.length oc, .slice da2 z.length dc2, us, by simp only [HV.out, Int.toNat_natCast, HCL.out], ?_, ?_, HS17.out⟩, below_set5 (HBB.out.trans (HB17.out.mono HBB.out.size)) (Nat.le_succ _) _ _ _ _ _⟩
        · simp only [HV.out]
          exact (OwnSY.set5 (q := w.heap.size + 1) (vo := .slice oa yo.length oc) (v := .slice da2 z.length dc2) (us := us) (z := dsD f n z) ⟨HI17.out, HD17.out, HS17.out⟩ (by omega) _ _ _ _ _).o.mono (by omega)
        · simp only [HV.out, Int.toNat_natCast]
          exact (OwnSY.set5 (q := w.heap.size + 1) (vo := .slice oa yo.length oc) (v := .slice da2 z.length dc2) (us := us) (z := dsD f n z) ⟨HI17.out, HD17.out, HS17.out⟩ (by omega) _ _ _ _ _).m.mono3 (by omega))
    case neg =>
      have HV := Lib.hid (fun (α : Type) (b n' m o : α) => ds_lim HO.out HS.out (fun k => hlim k.2) b n' m o)
      go_upto_region 11 with fail
      have MK := Lib.hid (show ∀ w' : World, Below wc.heap.size wc w' → w'.cell? ⟨w.heap.size, 0, none⟩ = some (.int .i64 h) ∧ w'.cell? ⟨w.heap.size, 1, none⟩ = some (.slice ao yo.length co) ∧ w'.cell? ⟨w.heap.size, 2, none⟩ = some (.int .i64 f) ∧ w'.cell? ⟨q8, 0, none⟩ = some (.slice va K vc) ∧ w'.cell? ⟨q8, 1, none⟩ = some (.int .i64 f) ∧ w'.cell? ⟨q8, 2, none⟩ = some (.int .i64 (z.length : Int)) from fun w' hw => ⟨(HXB.out.step hw).s0, (HXB.out.step hw).s1, (HXB.out.step hw).s2, (HBX.out.step hw).m0, (HBX.out.step hw).m1, (HBX.out.step hw).m2⟩)
      go_region_held3 (fun w' => w'.cell? ⟨w.heap.size, 0, none⟩ = some (.int .i64 h) ∧ w'.cell? ⟨w.heap.size, 1, none⟩ = some (.slice ao yo.length co) ∧ w'.cell? ⟨w.heap.size, 2, none⟩ = some (.int .i64 f) ∧ w'.cell? ⟨q8, 0, none⟩ = some (.slice va K vc) ∧ w'.cell? ⟨q8, 1, none⟩ = some (.int .i64 f) ∧ w'.cell? ⟨q8, 2, none⟩ = some (.int .i64 (z.length : Int))) (first | (refine MK.out _ ?_; first | with_reducible exact drew_step _ | with_reducible exact HB14.out | with_reducible exact HB15.out | with_reducible exact HB16.out | with_reducible exact HB17.out | fail) | exact ⟨cell_set5 (HXB.out.step HB17.out).s0 (by omega) _ _ _ _ _, cell_set5 (HXB.out.step HB17.out).s1 (by omega) _ _ _ _ _, cell_set5 (HXB.out.step HB17.out).s2 (by omega) _ _ _ _ _, cell_set5 (HBX.out.step HB17.out).m0 (by omega) _ _ _ _ _, cell_set5 (HBX.out.step HB17.out).m1 (by omega) _ _ _ _ _, cell_set5 (HBX.out.step HB17.out).m2 (by omega) _ _ _ _ _⟩ | fail) (first
        | (go_at_call 85; refine (transposed_eq f z.length va vc K (dsC f n z) _ HCL.out (HGR.out.step (drew_step _)) (by rw [HCL.out]; omega) (by omega) (fun r hr => (HCG.out.rows r hr).1)).mono ?_; rintro e w14 ⟨⟨v14, us14, rfl, ho14⟩, hb14⟩; obtain ⟨da, dc, hf14⟩ := ho14.form; have hdl : (turned (dsC f n z) z.length).length = z.length := turned_len _ _; rw [hdl] at hf14; subst hf14; have hfl := run_field_g (.slice da z.length dc) f ((K : Nat) : Int); have HB14 := Lib.hid (show Below wc.heap.size wc w14 from (drew_step wc).trans hb14); have HD14 := Lib.hid (show GridR w14 da f (dsD f n z) from grid_of (n := z.length) (by have h9 := ho14; exact h9)); clear ho14 hb14 hdl; have hs14 := HB14.out.size)
        | (go_at_call 76; refine (lists_eq f da (dsD f n z) dc z.length w14 dsD_len HD14.out HSD.out).mono ?_; rintro e w15 ⟨⟨v15, us15, rfl, ho15⟩, hb15⟩; obtain ⟨la2, lc2, hf15⟩ := ho15.form; rw [dsD_len] at hf15; subst hf15; have HB15 := Lib.hid (show Below wc.heap.size wc w15 from HB14.out.trans (hb15.mono hs14)); have HR15 := Lib.hid ho15.rows2v; clear ho15 hb15; have hs15 := HB15.out.size)
        | (go_at_call 89; refine (ownedRows_eq ao yo co la2 (dsD f n z) lc2 z.length w15 dsD_len (HYB.out.step HB15.out) HR15.out (by rw [dsD_len]; exact HYZ.out) (by rw [HYZ.out]; omega) (fun r hr => by rw [(HDG.out.rows r hr).1, HCL.out]; omega)).mono ?_; rintro e w16 ⟨⟨v16, rfl, ho16⟩, hb16⟩; obtain ⟨ra, rc, hf16⟩ := rowForm ho16; subst hf16; have HB16 := Lib.hid (show Below wc.heap.size wc w16 from HB15.out.trans (hb16.mono hs15)); have HR16 := Lib.hid (show OwnR w16 wc.heap.size (.slice ra yo.length rc) yo (dsD f n z) yo.length from ownsRow_mono ho16 hs15); clear ho16 hb16; have hs16 := HB16.out.size)
        | (go_at_call 88; refine (newScheme_bad h f ((K : Nat) : Int) ra yo.length rc w16 (by rw [HYZ.out]; omega) (.inl (by have := HCL.out; omega))).mono ?_; rintro e w17 ⟨⟨vo, v, us, rfl, hoI, hoR, hS⟩, hb17⟩; obtain ⟨oa, oc, rfl⟩ := rowForm hoI; obtain ⟨da2, dc2, rfl⟩ := hoR.form; have HI17 := Lib.hid hoI; have HD17 := Lib.hid hoR; have HS17 := Lib.hid hS; clear hoI hoR hS; have HB17 := Lib.hid (show Below wc.heap.size wc w17 from HB16.out.trans (hb17.mono hs16)); have UZ := HZB.out.step HB17.out; have r0 := UZ.s0; have rf0 := UZ.frozen 0; have r1 := UZ.s1; have rf1 := UZ.frozen 1; have r2 := UZ.s2; have rf2 := UZ.frozen 2; have r3 := UZ.s3; have rf3 := UZ.frozen 3; have r4 := UZ.s4; have rf4 := UZ.frozen 4; have lz := UZ.lt; clear UZ hb17))
      all_goals (
        go_wp2_with fail
        refine bodyPost_ret (v := .tuple #[.agg #[.int .i64 0, .slice oa 0 oc, .int .i64 0, .int .i64 0, .slice da2 0 dc2], .int .i64 3]) (by simp [results, Try.results33, go_sem, r0, r1, r2, r3, r4]) rfl ⟨⟨.slice oa 0 oc, .slice da2 0 dc2, us, by simp only [HV.out], ?_, ?_, HS17.out⟩, below_set5 (HBB.out.trans (HB17.out.mono HBB.out.size)) (Nat.le_succ _) _ _ _ _ _⟩
        · simp only [HV.out]
          exact (OwnSY.set5 (q := w.heap.size + 1) (vo := .slice oa 0 oc) (v := .slice da2 0 dc2) (us := us) (z := []) (yo := []) ⟨HI17.out, HD17.out, HS17.out⟩ (by omega) _ _ _ _ _).o.mono (by omega)
        · simp only [HV.out]
          exact (OwnSY.set5 (q := w.heap.size + 1) (vo := .slice oa 0 oc) (v := .slice da2 0 dc2) (us := us) (z := []) (yo := []) ⟨HI17.out, HD17.out, HS17.out⟩ (by omega) _ _ _ _ _).m.mono3 (by omega))
end Go.Proofs.Ytnebkhelobpkpaa

namespace Go.Proofs.Ytnebkhelobpkpaa
open Go.RowKit Go.Deep Go.Joins
set_option linter.unusedVariables false



theorem box3_other {W : World} {B : Nat} {t : TypeId} {u0 u1 u2 : Value} (h : Boxes W B t #[u0, u1, u2]) (x0 x1 x2 : Value) : Boxes (((W.setCell ⟨B, 0, none⟩ x0).setCell ⟨B, 1, none⟩ x1).setCell ⟨B, 2, none⟩ x2) B t #[x0, x1, x2] := by
  unfold Boxes at h ⊢
  simp [World.setCell, Array.getElem?_modify, h]
theorem row_set3m {W : World} {base e size k B : Nat} {v : Value} {xs : List Value} (h : W.ownsRow base e size v k xs) {u0 u1 u2 : Value} (hx : Boxes W B 46 #[u0, u1, u2]) (he : e ≠ 46) (x0 x1 x2 : Value) : (((W.setCell ⟨B, 0, none⟩ x0).setCell ⟨B, 1, none⟩ x1).setCell ⟨B, 2, none⟩ x2).ownsRow base e size v k xs := by
  have hne : v.ownBlock = none ∨ v.ownBlock ≠ some B := by
    rcases h.2 with ⟨rfl, _⟩ | ⟨g, cap, cur, rfl, _, hg, _⟩
    · exact .inl rfl
    · refine .inr fun e2 => ?_
      obtain rfl : g = B := by simpa [Value.ownBlock] using e2
      have hx2 : W.heap[g]? = _ := hx
      rw [hg] at hx2
      cases hx2
      exact he rfl
  refine h.kept ⟨rfl, rfl, rfl, by simp, fun q _ hq => ?_⟩ (row := some B) hne
  have hq2 : q ≠ B := fun e3 => hq (by rw [e3])
  rw [Below.heap_setCell _ _ _ _ (by simpa using hq2), Below.heap_setCell _ _ _ _ (by simpa using hq2), Below.heap_setCell _ _ _ _ (by simpa using hq2)]
theorem below_set3 {B q : Nat} {w W : World} (h : Below B w W) (hB : B ≤ q) (x0 x1 x2 : Value) : Below B w (((W.setCell ⟨q, 0, none⟩ x0).setCell ⟨q, 1, none⟩ x1).setCell ⟨q, 2, none⟩ x2) :=
  ((h.setCell (p := ⟨q, 0, none⟩) hB x0).setCell (p := ⟨q, 1, none⟩) hB x1).setCell (p := ⟨q, 2, none⟩) hB x2
theorem ds_rows3 {w11 W : World} {base b2 g cap k uc m B : Nat} {ua : Option Addr} {fst : List Int} {us : List Value} {KZ : List (List Int)} (hm : fst.length = m) (hr : W.ownsRow base 35 1 (.slice (some ⟨g, 0, none⟩) (1 + k) cap) (1 + k) ([.slice ua m uc] ++ us)) (hf : Ints w11 ua fst) (ho : RowsOwn W b2 us KZ) (hk : KZ.length = k) (hB : Below w11.heap.size w11 W) {u0 u1 u2 : Value} (hx : Boxes W B 46 #[u0, u1, u2]) (hBB : w11.heap.size ≤ B) (x0 x1 x2 : Value) :
    Rows2 (((W.setCell ⟨B, 0, none⟩ x0).setCell ⟨B, 1, none⟩ x1).setCell ⟨B, 2, none⟩ x2) (some ⟨g, 0, none⟩) (fst :: KZ) :=
  ds_rows hm (row_set3m hr hx (by decide) x0 x1 x2) (hf.step (below_set3 hB hBB x0 x1 x2)) (ho.map fun u zs h => row_set3m h hx (by decide) x0 x1 x2) hk
theorem told_eq (h f l : Int) (ao : Option Addr) (yo : List Int) (co : Nat) (a : Option Addr) (z : List (List Int)) (c m : Nat) (w : World) (hm : z.length = m) (ha : InS w ao yo a z) (hla : LenS yo z) :
    Calls Try.prog 83 #[.agg #[.int .i64 h, .slice ao yo.length co, .int .i64 f, .int .i64 l, .slice a m c]] w fun e w' => ((SchOk h yo f l z ∧ e = .returned (.tuple #[.agg #[.int .i64 h, .slice ao yo.length co, .int .i64 f, .int .i64 l, .slice a m c], .int .i64 0])) ∨ (¬ SchOk h yo f l z ∧ e = .returned (.tuple #[.agg #[.int .i64 0, .slice none 0 0, .int .i64 0, .int .i64 0, .slice none 0 0], .int .i64 3]))) ∧ Below w.heap.size w w' := by subst hm; exact l04Told_any h f l ao yo co a z c w ha hla

theorem sep_later {W W' : World} {base : Nat} {v : Value} {zs : List Int} {us : List Value} {z : List (List Int)} (h : OwnI W base v zs) (ho : RowsOwn W' W.heap.size us z) : Sep us v := fun u hu b hb e => by
  have h1 := (h.lt e).2
  obtain ⟨i, hi, rfl⟩ := List.mem_iff_getElem.1 hu
  have h2 := ((ho.own i us[i] (z[i]'(by rw [← ho.len]; exact hi)) (by simp [hi]) (by simp)).lt hb).1
  omega

set_option maxRecDepth 100000 in
set_option maxHeartbeats 8000000 in
theorem specDu_any (h f l : Int) (ao : Option Addr) (yo : List Int) (co : Nat) (a : Option Addr) (z : List (List Int)) (c : Nat) (w : World) (hr : InS w ao yo a z) (hl : LenS yo z) :
    Calls Try.prog 32 #[.agg #[.int .i64 h, .slice ao yo.length co, .int .i64 f, .int .i64 l, .slice a z.length c]] w (GivesSY w (dsSel h f l yo z 0 0 0 h) (dsSel h f l yo z 0 0 0 f) (dsSel h f l yo z 0 0 0 ((dsC f l.toNat z).length : Int)) (dsSel h f l yo z [] [] [] yo) (dsSel h f l yo z [] [] [] (dsD f l.toNat z)) (dsSel h f l yo z 1 4 3 0)) := by
  have HL := Lib.hid hl
  have hb2 : Below w.heap.size w ((w.alloc (.cells #[.int .i64 h, .slice ao yo.length co, .int .i64 f, .int .i64 l, .slice a z.length c] 48)).alloc (.cells #[.int .i64 0, .slice none 0 0, .int .i64 0, .int .i64 0, .slice none 0 0] 48)) := ((Below.refl w.heap.size w).alloc (Nat.le_refl _) _).alloc (by simp) _
  have hx : Boxes ((w.alloc (.cells #[.int .i64 h, .slice ao yo.length co, .int .i64 f, .int .i64 l, .slice a z.length c] 48)).alloc (.cells #[.int .i64 0, .slice none 0 0, .int .i64 0, .int .i64 0, .slice none 0 0] 48)) w.heap.size 48 #[.int .i64 h, .slice ao yo.length co, .int .i64 f, .int .i64 l, .slice a z.length c] := Boxes.step (World.alloc_heap_new w _) ((Below.refl _ _).alloc (Nat.le_refl _) _)
  have hz : Boxes ((w.alloc (.cells #[.int .i64 h, .slice ao yo.length co, .int .i64 f, .int .i64 l, .slice a z.length c] 48)).alloc (.cells #[.int .i64 0, .slice none 0 0, .int .i64 0, .int .i64 0, .slice none 0 0] 48)) (w.heap.size + 1) 48 #[.int .i64 0, .slice none 0 0, .int .i64 0, .int .i64 0, .slice none 0 0] := by
    have : Boxes ((w.alloc (.cells #[.int .i64 h, .slice ao yo.length co, .int .i64 f, .int .i64 l, .slice a z.length c] 48)).alloc (.cells #[.int .i64 0, .slice none 0 0, .int .i64 0, .int .i64 0, .slice none 0 0] 48)) (w.alloc (.cells #[.int .i64 h, .slice ao yo.length co, .int .i64 f, .int .i64 l, .slice a z.length c] 48)).heap.size 48 #[.int .i64 0, .slice none 0 0, .int .i64 0, .int .i64 0, .slice none 0 0] := World.alloc_heap_new _ _
    simp only [World.size_alloc] at this
    exact this
  have HR0 := Lib.hid hr
  have HR := Lib.hid (hr.step hb2)
  clear hr hl
  go_enter Try.func32, Try.ntmps32
  go_wp2_with fail
  refine (l04Ok_any w.heap.size h f l ao yo co a z c _ hx HR.out HL.out).mono ?_
  generalize ((w.alloc (.cells #[.int .i64 h, .slice ao yo.length co, .int .i64 f, .int .i64 l, .slice a z.length c] 48)).alloc (.cells #[.int .i64 0, .slice none 0 0, .int .i64 0, .int .i64 0, .slice none 0 0] 48)) = w2 at *
  rintro e w3 ⟨rfl, hq3⟩
  have hb3 := quiet_below hq3
  have HX := Lib.hid (hx.step hb3)
  have HZ := Lib.hid (hz.step hb3)
  have HB := Lib.hid (chain hb2 hb3)
  have HR3 := Lib.hid (HR.out.step hb3)
  clear hb2 hx hz hb3 HR
  have r0 := HZ.out.s0; have rf0 := HZ.out.frozen 0; have r1 := HZ.out.s1; have rf1 := HZ.out.frozen 1; have r2 := HZ.out.s2; have rf2 := HZ.out.frozen 2; have r3 := HZ.out.s3; have rf3 := HZ.out.frozen 3; have r4 := HZ.out.s4; have rf4 := HZ.out.frozen 4; have lz := HZ.out.lt
  by_cases hok : SchOk h yo f l z
  case neg =>
    have HT := Lib.hid (tell_false hok)
    have HV := Lib.hid (fun (α : Type) (b n m o : α) => ds_bad (h := h) (f := f) (l := l) (yo := yo) (z := z) hok b n m o)
    clear hok
    rw [HT.out]
    go_wp2_with fail
    refine bodyPost_ret (v := .tuple #[.agg #[.int .i64 0, .slice none 0 0, .int .i64 0, .int .i64 0, .slice none 0 0], .int .i64 1]) (by simp [results, Try.results32, go_sem, r0, r1, r2, r3, r4]) rfl ⟨⟨.slice none 0 0, .slice none 0 0, [], by simp only [HV.out], ?_, ?_, fun u hu => by cases hu⟩, below_set5 HB.out (Nat.le_succ _) _ _ _ _ _⟩
    · simp only [HV.out]; exact OwnI.nil _ _
    · simp only [HV.out]; exact Own.nil3 _ _
  have HT := Lib.hid (tell_true hok)
  have hl1 : 1 ≤ l := hok.2.2.1
  have hl12 : l ≤ 12 := hok.2.1.2.1.2
  obtain ⟨n, rfl⟩ : ∃ n : Nat, l = (n : Int) := ⟨l.toNat, by omega⟩
  have hn1 : 1 ≤ n := by omega
  have hn12 : n ≤ 12 := by omega
  have hf2 : 2 ≤ f := hok.2.1.1.1
  have hf31 : f ≤ 31 := hok.2.1.1.2.1
  have hz20 : z.length ≤ 20 := hok.2.1.2.2.1
  have HO := Lib.hid hok
  have HYZ := Lib.hid hok.2.2.2.1
  have HG := Lib.hid (ds_goodM hok)
  have HGT := Lib.hid (ds_turned hok)
  have HROW := Lib.hid (fun r (hr : r < z.length) => ((ds_goodM hok).rows r hr).1)
  clear hok
  rw [HT.out]
  have lx := HX.out.lt
  go_wp2_with fail
  refine (l03Turned2_any w.heap.size f n a z c w3 ⟨HX.out.s2, HX.out.s3, HX.out.s4⟩ HR3.out.r (by omega) (by omega) HROW.out).mono ?_
  rintro e w4 ⟨⟨ta, tc, tus, rfl, ho4⟩, hb4⟩
  have hb5 := al_b w4 (.cells #[.int .i64 f, .int .i64 (z.length : Int), .slice ta n tc] 46)
  have HT4 := Lib.hid (show Boxes (w4.alloc (.cells #[.int .i64 f, .int .i64 (z.length : Int), .slice ta n tc] 46)) w4.heap.size 46 #[.int .i64 f, .int .i64 (z.length : Int), .slice ta n tc] from World.alloc_heap_new _ _)
  have HTR := Lib.hid (ho4.rows2v.step hb5)
  replace HX := Lib.hid ((HX.out.step hb4).step hb5)
  replace HZ := Lib.hid ((HZ.out.step hb4).step hb5)
  replace HB := Lib.hid ((chain HB.out hb4).trans (hb5.mono (chain HB.out hb4).size))
  clear ho4 hb4 r0 r1 r2 r3 r4 rf0 rf1 rf2 rf3 rf4 lz lx hq3 HR3
  go_upto_region 4 with fail
  generalize w4.heap.size = q4 at *
  generalize w4.alloc (.cells #[.int .i64 f, .int .i64 (z.length : Int), .slice ta n tc] 46) = w5 at *
  clear hb5
  have x3 := HX.out.s3
  have lx := HX.out.lt
  go_wp2_with fail
  refine (l04First_any n _ (by omega) (by omega)).mono ?_
  rintro e w6 ⟨⟨v6, rfl, hv6⟩, hb6⟩
  obtain ⟨fa, fc, hf6⟩ := rowForm hv6
  rw [fstL_len] at hf6
  subst hf6
  have HV6 := Lib.hid (Ints_of_own hv6)
  replace HX := Lib.hid (HX.out.step hb6)
  replace HZ := Lib.hid (HZ.out.step hb6)
  replace HT4 := Lib.hid (HT4.out.step hb6)
  replace HTR := Lib.hid (HTR.out.step hb6)
  replace HB := Lib.hid (chain HB.out hb6)
  clear hv6 hb6 x3 lx
  go_wp2_with fail
  refine (solve_eq q4 z.length tc fc n n f ta fa (turned z n) (fstL n) w6 (turned_len _ _) (fstL_len n) HT4.out HTR.out HGT.out (by omega) HV6.out (by rw [turned_len, fstL_len]) (fstL_elems hf2 n)).mono ?_
  rintro e w7 ⟨⟨u7, rfl, hu7⟩, hb7⟩
  have HU7 := Lib.hid hu7
  replace HX := Lib.hid (HX.out.step hb7)
  replace HZ := Lib.hid (HZ.out.step hb7)
  replace HT4 := Lib.hid (HT4.out.step hb7)
  replace HTR := Lib.hid (HTR.out.step hb7)
  replace HB := Lib.hid (chain HB.out hb7)
  clear hu7 hb7 HV6
  have r0 := HZ.out.s0; have rf0 := HZ.out.frozen 0; have r1 := HZ.out.s1; have rf1 := HZ.out.frozen 1; have r2 := HZ.out.s2; have rf2 := HZ.out.frozen 2; have r3 := HZ.out.s3; have rf3 := HZ.out.frozen 3; have r4 := HZ.out.s4; have rf4 := HZ.out.frozen 4; have lz := HZ.out.lt
  by_cases hs : SolOk f z.length (turned z n) (fstL n)
  case neg =>
    have HTS := Lib.hid (tell_false hs)
    have HV := Lib.hid (fun (α : Type) (b n' m o : α) => ds_no HO.out hs b n' m o)
    clear hs
    rw [HTS.out]
    go_wp2_with fail
    refine bodyPost_ret (v := .tuple #[.agg #[.int .i64 0, .slice none 0 0, .int .i64 0, .int .i64 0, .slice none 0 0], .int .i64 4]) (by simp [results, Try.results32, go_sem, r0, r1, r2, r3, r4]) rfl ⟨⟨.slice none 0 0, .slice none 0 0, [], by simp only [HV.out], ?_, ?_, fun u hu => by cases hu⟩, below_set5 HB.out (Nat.le_succ _) _ _ _ _ _⟩
    · simp only [HV.out]; exact OwnI.nil _ _
    · simp only [HV.out]; exact Own.nil3 _ _
  have HTS := Lib.hid (tell_true hs)
  have HS := Lib.hid hs
  have hu := HU7.out
  rw [(sol_yes hs).1] at hu
  obtain ⟨ua, uc, hu2⟩ := rowForm hu
  rw [(ds_fst HO.out).1] at hu2
  subst hu2
  have HU := Lib.hid (Ints_of_own hu)
  clear hs hu HU7
  rw [HTS.out]
  have HT4L := Lib.hid (show Boxes w7 q4 46 #[.int .i64 f, .int .i64 (z.length : Int), .slice ta (turned z n).length tc] from by rw [turned_len]; exact HT4.out)
  go_wp2_with fail
  refine (l03Ok_any q4 f (z.length : Int) ta (turned z n) tc w7 HT4L.out HTR.out ⟨by rw [turned_len]; omega, fun r hr => by rw [(HGT.out.rows r hr).1]; omega⟩).mono ?_
  rintro e w8 ⟨rfl, hq8⟩
  have hb8 := quiet_below hq8
  replace HX := Lib.hid (HX.out.step hb8)
  replace HZ := Lib.hid (HZ.out.step hb8)
  replace HT4L := Lib.hid (HT4L.out.step hb8)
  replace HTR := Lib.hid (HTR.out.step hb8)
  replace HU := Lib.hid (HU.out.step hb8)
  replace HB := Lib.hid (chain HB.out hb8)
  clear hq8 hb8 r0 r1 r2 r3 r4 rf0 rf1 rf2 rf3 rf4 lz HT4
  have r0 := HZ.out.s0; have rf0 := HZ.out.frozen 0; have r1 := HZ.out.s1; have rf1 := HZ.out.frozen 1; have r2 := HZ.out.s2; have rf2 := HZ.out.frozen 2; have r3 := HZ.out.s3; have rf3 := HZ.out.frozen 3; have r4 := HZ.out.s4; have rf4 := HZ.out.frozen 4; have lz := HZ.out.lt
  by_cases hz12 : z.length ≤ 12
  case neg =>
    have HV := Lib.hid (fun (α : Type) (b n' m o : α) => ds_lim HO.out HS.out (fun k => hz12 k.1) b n' m o)
    have HTM := Lib.hid (tell_false (fun k => hz12 ((ds_matT HO.out).1 k)))
    rw [HTM.out]
    go_wp2_with fail
    refine bodyPost_ret (v := .tuple #[.agg #[.int .i64 0, .slice none 0 0, .int .i64 0, .int .i64 0, .slice none 0 0], .int .i64 3]) (by simp [results, Try.results32, go_sem, r0, r1, r2, r3, r4]) rfl ⟨⟨.slice none 0 0, .slice none 0 0, [], by simp only [HV.out], ?_, ?_, fun u hu => by cases hu⟩, below_set5 HB.out (Nat.le_succ _) _ _ _ _ _⟩
    · simp only [HV.out]; exact OwnI.nil _ _
    · simp only [HV.out]; exact Own.nil3 _ _
  have HTM := Lib.hid (tell_true ((ds_matT HO.out).2 hz12))
  have HMK := Lib.hid (ds_matK HO.out hz12)
  rw [HTM.out]
  clear r0 r1 r2 r3 r4 rf0 rf1 rf2 rf3 rf4 lz
  go_wp2_with fail
  refine (l03Kernel_any q4 z.length tc f ta (turned z n) w8 HT4L.out HTR.out HGT.out).mono ?_
  rintro e w9 ⟨⟨ka, kc, kus, rfl, hok⟩, hb9⟩
  have hb10 := al_b w9 (.cells #[.int .i64 f, .int .i64 (z.length : Int), .slice ka (kerZ f z.length (turned z n)).length kc] 46)
  have HK := Lib.hid (show Boxes (w9.alloc (.cells #[.int .i64 f, .int .i64 (z.length : Int), .slice ka (kerZ f z.length (turned z n)).length kc] 46)) w9.heap.size 46 #[.int .i64 f, .int .i64 (z.length : Int), .slice ka (kerZ f z.length (turned z n)).length kc] from World.alloc_heap_new _ _)
  have HKO := Lib.hid (hok.step hb10)
  have hkb := hb9.size
  replace HX := Lib.hid ((HX.out.step hb9).step hb10)
  replace HZ := Lib.hid ((HZ.out.step hb9).step hb10)
  replace HU := Lib.hid ((HU.out.step hb9).step hb10)
  replace HB := Lib.hid ((chain HB.out hb9).trans (hb10.mono (chain HB.out hb9).size))
  clear hok hb9 HT4L HTR
  go_upto_region 10 with fail
  generalize w9.heap.size = q7 at *
  generalize w9.alloc (.cells #[.int .i64 f, .int .i64 (z.length : Int), .slice ka (kerZ f z.length (turned z n)).length kc] 46) = w10 at *
  clear hb10
  go_wp2_with fail
  refine (l03Ok_any q7 f (z.length : Int) ka (kerZ f z.length (turned z n)) kc w10 HK.out HKO.out.rows2v ⟨by have := HMK.out.2.2.1; omega, fun r hr => by have := (HMK.out.2.2.2 r hr).1; omega⟩).mono ?_
  rintro e w11 ⟨rfl, hq11⟩
  have hb11 := quiet_below hq11
  replace HX := Lib.hid (HX.out.step hb11)
  replace HZ := Lib.hid (HZ.out.step hb11)
  replace HU := Lib.hid (HU.out.step hb11)
  replace HK := Lib.hid (HK.out.step hb11)
  replace HKO := Lib.hid (HKO.out.step hb11)
  replace HB := Lib.hid (chain HB.out hb11)
  have HTK := Lib.hid (tell_true HMK.out)
  rw [HTK.out]
  clear hq11 hb11
  obtain ⟨k, hk⟩ : ∃ k, (kerZ f z.length (turned z n)).length = k := ⟨_, rfl⟩
  have HKL := Lib.hid hk
  have hk12 : k ≤ 20 := by have := HMK.out.2.2.1; omega
  rw [hk] at HK HKO
  clear hk
  have HKR := Lib.hid (show w11.ownsRow w8.heap.size 35 1 (.slice ka k kc) k kus from by have h9 := HKO.out.row; rw [HKL.out] at h9; exact h9)
  have HCG := Lib.hid (dsC_good HO.out hz12)
  have HDG := Lib.hid (dsD_good HO.out hz12)
  have HCL := Lib.hid (show (dsC f n z).length = 1 + k from by rw [dsC_len, HKL.out, Nat.add_comm])
  have x1 := HX.out.s1
  have x2 := HX.out.s2
  have lx := HX.out.lt
  have y2 := HK.out.m2
  have yl := HK.out.lt
  have hl1' : w.heap.size < w11.heap.size + 1 := Nat.lt_succ_of_lt lx
  have hl2' : w.heap.size < w11.heap.size + 1 + 1 := Nat.lt_succ_of_lt hl1'
  have yl1 : q7 < w11.heap.size + 1 := Nat.lt_succ_of_lt yl
  have yl2 : q7 < w11.heap.size + 1 + 1 := Nat.lt_succ_of_lt yl1
  obtain ⟨i1, ji, jz0, jz1, jz2⟩ := info_parts Try.infoInt64S
  go_upto_region 12 with fail
  go_cut [8] from 32 to 43 (fun s8 wr => ∃ (q8 : Nat) (va : Option Addr) (vc : Nat), s8 = .pointer (some ⟨q8, 0, none⟩) ∧ Boxes wr q8 46 #[.int .i64 f, .int .i64 (yo.length : Int), .slice va (1 + k) vc] ∧ Rows2 wr va (dsC f n z) ∧ Below w11.heap.size w11 wr)
  case first =>
    have MK := Lib.hid (show ∀ w' : World, Below w11.heap.size w11 w' → Below w11.heap.size w11 w' ∧ w'.cell? ⟨w.heap.size, 1, none⟩ = some (.slice ao yo.length co) ∧ w'.cell? ⟨w.heap.size, 2, none⟩ = some (.int .i64 f) ∧ w'.cell? ⟨q7, 2, none⟩ = some (.slice ka k kc) from fun w' hw => ⟨hw, (HX.out.step hw).s1, (HX.out.step hw).s2, (HK.out.step hw).m2⟩)
    go_region_held3 (fun w' => Below w11.heap.size w11 w' ∧ w'.cell? ⟨w.heap.size, 1, none⟩ = some (.slice ao yo.length co) ∧ w'.cell? ⟨w.heap.size, 2, none⟩ = some (.int .i64 f) ∧ w'.cell? ⟨q7, 2, none⟩ = some (.slice ka k kc)) ((refine MK.out _ ?_; first | with_reducible exact drew_step _ | with_reducible exact ((Below.refl _ _).alloc (Nat.le_refl _) _).drew | with_reducible exact (((Below.refl _ _).alloc (Nat.le_refl _) _).alloc (by simp) _).drew | with_reducible exact HB12.out | with_reducible exact HB12.out.alloc HB12.out.size _ | with_reducible exact below_set3 HB12.out (by first | omega | (simp <;> omega) | (simp; done)) _ _ _ | fail)) (first | ((with_reducible show (if Region.wanted _ _ = true then Oper.wp _ _ _ (World.drew (World.alloc (w11) (.cells #[.slice ua z.length uc] 35))) _ _ else _)); refine step_append_both (by rfl) _ _ 36 (by rfl) w11.heap.size 35 i1 (.slice none 0 0) 24 Try.underlying36 ji jz0 jz1 jz2 rfl (w11.heap.size) 1 1 [.slice ua z.length uc] (by first | rfl | simp [Act.eval]) (own_box ((bx_new w11 #[.slice ua z.length uc] 35).step (drew_step _)) (by first | omega | (simp <;> omega) | (simp; done))) w8.heap.size ka k kc kus (by first | rfl | simp [Act.eval]) (row_step (World.ownsRow.alloc HKR.out _) (drew_step _)) (rows_cells HKO.out.rows) (by unfold maxLen; omega) (by omega) (by first | omega | (simp <;> omega) | (simp; done)) ?_; intro g12 cap12 w12 hW12 hg12 hown12 hgrow12; have HRO12 := Lib.hid (show RowsOwn w12 w8.heap.size kus (kerZ f z.length (turned z n)) from HKO.out.rows.map fun u zs ho => row_other (row_step (World.ownsRow.alloc (show w11.ownsRow w8.heap.size 2 1 u zs.length (vals zs) from ho) _) (drew_step _)) hW12 hgrow12 (by decide)); have HB12 := Lib.hid (show Below w11.heap.size w11 w12 from Below.grown (by repeat (first | exact Below.refl _ _ | refine Below.drew ?_ | refine Below.alloc ?_ (by first | omega | (simp <;> omega) | (simp; done)) _)) hgrow12 (by first | omega | (simp <;> omega) | (simp; done)) (fun q hq => by have := Option.some.inj hq; omega)); have HOW12 := Lib.hid hown12; clear hW12 hown12 hgrow12; have hs12 := HB12.out.size; have j1 := (HX.out.step HB12.out).s1; have j2 := (HX.out.step HB12.out).s2; have jl := (HX.out.step HB12.out).lt; have jl1 : w.heap.size < w12.heap.size + 1 := Nat.lt_succ_of_lt jl) | ((with_reducible show (if Region.wanted _ _ = true then Oper.wp _ _ _ (World.drew (World.alloc (World.alloc (w11) (.cells #[.int .i64 0, .int .i64 0, .slice none 0 0] 46)) (.cells #[.slice ua z.length uc] 35))) _ _ else _)); refine step_append_both (by rfl) _ _ 36 (by rfl) w11.heap.size 35 i1 (.slice none 0 0) 24 Try.underlying36 ji jz0 jz1 jz2 rfl (w11.heap.size + 1) 1 1 [.slice ua z.length uc] (by first | rfl | simp [Act.eval]) (own_box ((bx_two w11 #[.int .i64 0, .int .i64 0, .slice none 0 0] #[.slice ua z.length uc] 46 35).step (drew_step _)) (by first | omega | (simp <;> omega) | (simp; done))) w8.heap.size ka k kc kus (by first | rfl | simp [Act.eval]) (row_step (World.ownsRow.alloc (World.ownsRow.alloc HKR.out _) _) (drew_step _)) (rows_cells HKO.out.rows) (by unfold maxLen; omega) (by omega) (by first | omega | (simp <;> omega) | (simp; done)) ?_; intro g12 cap12 w12 hW12 hg12 hown12 hgrow12; have HRO12 := Lib.hid (show RowsOwn w12 w8.heap.size kus (kerZ f z.length (turned z n)) from HKO.out.rows.map fun u zs ho => row_other (row_step (World.ownsRow.alloc (World.ownsRow.alloc (show w11.ownsRow w8.heap.size 2 1 u zs.length (vals zs) from ho) _) _) (drew_step _)) hW12 hgrow12 (by decide)); have HB12 := Lib.hid (show Below w11.heap.size w11 w12 from Below.grown (by repeat (first | exact Below.refl _ _ | refine Below.drew ?_ | refine Below.alloc ?_ (by first | omega | (simp <;> omega) | (simp; done)) _)) hgrow12 (by first | omega | (simp <;> omega) | (simp; done)) (fun q hq => by have := Option.some.inj hq; omega)); have HZ12 := Lib.hid (Boxes.grown (((bx_new w11 #[.int .i64 0, .int .i64 0, .slice none 0 0] 46).step (alx_b _ _)).step (drew_step _)) hgrow12 (fun e9 => by have := Option.some.inj e9; omega)); have k0 := HZ12.out.m0; have k1 := HZ12.out.m1; have k2 := HZ12.out.m2; have kf0 := HZ12.out.frozen 0; have kf1 := HZ12.out.frozen 1; have kf2 := HZ12.out.frozen 2; have kl := HZ12.out.lt; have HOW12 := Lib.hid hown12; clear hW12 hown12 hgrow12; have hs12 := HB12.out.size; have j1 := (HX.out.step HB12.out).s1; have j2 := (HX.out.step HB12.out).s2; have jl := (HX.out.step HB12.out).lt; have jl1 : w.heap.size < w12.heap.size + 1 := Nat.lt_succ_of_lt jl) | ((with_reducible show (if Region.wanted _ _ = true then Oper.wp _ _ _ (World.drew (World.alloc (World.alloc (w11) (.cells #[.slice ua z.length uc] 35)) (.cells #[.int .i64 0, .int .i64 0, .slice none 0 0] 46))) _ _ else _)); refine step_append_both (by rfl) _ _ 36 (by rfl) w11.heap.size 35 i1 (.slice none 0 0) 24 Try.underlying36 ji jz0 jz1 jz2 rfl (w11.heap.size) 1 1 [.slice ua z.length uc] (by first | rfl | simp [Act.eval]) (own_box (((bx_new w11 #[.slice ua z.length uc] 35).step (alx_b _ _)).step (drew_step _)) (by first | omega | (simp <;> omega) | (simp; done))) w8.heap.size ka k kc kus (by first | rfl | simp [Act.eval]) (row_step (World.ownsRow.alloc (World.ownsRow.alloc HKR.out _) _) (drew_step _)) (rows_cells HKO.out.rows) (by unfold maxLen; omega) (by omega) (by first | omega | (simp <;> omega) | (simp; done)) ?_; intro g12 cap12 w12 hW12 hg12 hown12 hgrow12; have HRO12 := Lib.hid (show RowsOwn w12 w8.heap.size kus (kerZ f z.length (turned z n)) from HKO.out.rows.map fun u zs ho => row_other (row_step (World.ownsRow.alloc (World.ownsRow.alloc (show w11.ownsRow w8.heap.size 2 1 u zs.length (vals zs) from ho) _) _) (drew_step _)) hW12 hgrow12 (by decide)); have HB12 := Lib.hid (show Below w11.heap.size w11 w12 from Below.grown (by repeat (first | exact Below.refl _ _ | refine Below.drew ?_ | refine Below.alloc ?_ (by first | omega | (simp <;> omega) | (simp; done)) _)) hgrow12 (by first | omega | (simp <;> omega) | (simp; done)) (fun q hq => by have := Option.some.inj hq; omega)); have HZ12 := Lib.hid (Boxes.grown ((bx_two w11 #[.slice ua z.length uc] #[.int .i64 0, .int .i64 0, .slice none 0 0] 35 46).step (drew_step _)) hgrow12 (fun e9 => by have := Option.some.inj e9; omega)); have k0 := HZ12.out.m0; have k1 := HZ12.out.m1; have k2 := HZ12.out.m2; have kf0 := HZ12.out.frozen 0; have kf1 := HZ12.out.frozen 1; have kf2 := HZ12.out.frozen 2; have kl := HZ12.out.lt; have HOW12 := Lib.hid hown12; clear hW12 hown12 hgrow12; have hs12 := HB12.out.size; have j1 := (HX.out.step HB12.out).s1; have j2 := (HX.out.step HB12.out).s2; have jl := (HX.out.step HB12.out).lt; have jl1 : w.heap.size < w12.heap.size + 1 := Nat.lt_succ_of_lt jl) | fail)
    all_goals (
      go_wp2_with fail
      go_meet
      first
        | exact ⟨_, _, _, rfl, box3_other HZ12.out _ _ _, ds_rows3 (ds_fst HO.out).1 HOW12.out HU.out HRO12.out HKL.out HB12.out HZ12.out (by first | omega | (simp <;> omega) | (simp; done)) _ _ _, below_set3 HB12.out (by first | omega | (simp <;> omega) | (simp; done)) _ _ _⟩
        | exact ⟨w12.heap.size, _, _, rfl, bx_new w12 _ _, (ds_rows (ds_fst HO.out).1 HOW12.out (HU.out.step HB12.out) HRO12.out HKL.out).step (alx_b _ _), HB12.out.alloc HB12.out.size _⟩)
  case rest =>
    obtain ⟨q8, va, vc, rfl, hbx, hrr, hb⟩ := hcut
    have HBX := Lib.hid (show Boxes wc q8 46 #[.int .i64 f, .int .i64 (z.length : Int), .slice va (dsC f n z).length vc] from by rw [HCL.out, ← HYZ.out]; exact hbx)
    have HRR := Lib.hid hrr
    have HXB := Lib.hid (HX.out.step hb)
    have HZB := Lib.hid (HZ.out.step hb)
    have HBB := Lib.hid (chain HB.out hb)
    have HYB := Lib.hid (HR0.out.o.below HBB.out (Nat.le_refl _))
    have hbz : w.heap.size + 2 ≤ wc.heap.size := HZB.out.lt
    clear hbx hrr hb x1 x2 lx y2 yl hl1' hl2' yl1 yl2
    by_cases hlim : (dsC f n z).length ≤ 12
    case pos =>
      have HV := Lib.hid (fun (α : Type) (b n' m o : α) => ds_ok HO.out HS.out ⟨hz12, hlim⟩ b n' m o)
      go_upto_region 13 with fail
      have MK := Lib.hid (show ∀ w' : World, Below wc.heap.size wc w' → w'.cell? ⟨w.heap.size, 0, none⟩ = some (.int .i64 h) ∧ w'.cell? ⟨w.heap.size, 1, none⟩ = some (.slice ao yo.length co) from fun w' hw => ⟨(HXB.out.step hw).s0, (HXB.out.step hw).s1⟩)
      go_region_held3 (fun w' => w'.cell? ⟨w.heap.size, 0, none⟩ = some (.int .i64 h) ∧ w'.cell? ⟨w.heap.size, 1, none⟩ = some (.slice ao yo.length co)) (first | (refine MK.out _ ?_; first | with_reducible exact drew_step _ | with_reducible exact HB13.out | with_reducible exact HB14.out | with_reducible exact HB15.out | fail) | exact ⟨cell_set5 (HXB.out.step HB15.out).s0 (by omega) _ _ _ _ _, cell_set5 (HXB.out.step HB15.out).s1 (by omega) _ _ _ _ _⟩ | fail) (first
        | (go_at_call 73; refine (l00Own_any ao yo co _ (HYB.out.step (drew_step _)) (by rw [HYZ.out]; omega)).mono ?_; rintro e w13 ⟨⟨v13, rfl, hv13⟩, hb13⟩; obtain ⟨oa, oc, hf13⟩ := rowForm hv13; subst hf13; have HB13 := Lib.hid (show Below wc.heap.size wc w13 from (drew_step wc).trans hb13); have HO13 := Lib.hid (show OwnI w13 wc.heap.size (.slice oa yo.length oc) yo from hv13); clear hv13 hb13; have hs13 := HB13.out.size)
        | (go_at_call 80; refine (l03Turned_any q8 f z.length va (dsC f n z) vc w13 (HBX.out.step HB13.out) (HRR.out.step HB13.out) (by rw [HCL.out]; omega) (by omega) (fun r hr => (HCG.out.rows r hr).1)).mono ?_; rintro e w14 ⟨⟨da, dc, dus, rfl, hd14⟩, hb14⟩; have HSEP := Lib.hid (show Sep dus (.slice oa yo.length oc) from sep_later HO13.out hd14.rows); have HB14 := Lib.hid (show Below wc.heap.size wc w14 from HB13.out.trans (hb14.mono hs13)); have HO14 := Lib.hid (HO13.out.step hb14); have HD14 := Lib.hid hd14; clear hd14 hb14; have hs14 := HB14.out.size)
        | (go_at_call 83; refine (told_eq h f ((dsC f n z).length : Int) oa yo oc da (dsD f n z) dc z.length w14 dsD_len ⟨Ints_of_own HO14.out, HD14.out.rows2v⟩ ⟨by rw [HYZ.out]; omega, ⟨by rw [dsD_len]; omega, fun r hr => by rw [(HDG.out.rows r hr).1, HCL.out]; omega⟩⟩).mono ?_; rintro e w15 ⟨h15, hb15⟩; have he : e = .returned (.tuple #[.agg #[.int .i64 h, .slice oa yo.length oc, .int .i64 f, .int .i64 ((dsC f n z).length : Int), .slice da z.length dc], .int .i64 0]) := (by rcases h15 with ⟨_, h⟩ | ⟨h, _⟩; exact h; exact absurd ((dsD_sch HO.out hz12).2 hlim) h); subst he; clear h15; have HB15 := Lib.hid (show Below wc.heap.size wc w15 from HB14.out.trans (hb15.mono hs14)); have HO15 := Lib.hid (HO14.out.step hb15); have HD15 := Lib.hid (HD14.out.step hb15); have UZ := HZB.out.step HB15.out; have r0 := UZ.s0; have rf0 := UZ.frozen 0; have r1 := UZ.s1; have rf1 := UZ.frozen 1; have r2 := UZ.s2; have rf2 := UZ.frozen 2; have r3 := UZ.s3; have rf3 := UZ.frozen 3; have r4 := UZ.s4; have rf4 := UZ.frozen 4; have lz := UZ.lt; clear UZ hb15))
      all_goals (
        go_wp2_with fail
        refine bodyPost_ret (v := .tuple #[.agg #[.int .i64 h, .slice oa yo.length oc, .int .i64 f, .int .i64 ((dsC f n z).length : Int), .slice da z.length dc], .int .i64 0]) (by simp [results, Try.results32, go_sem, r0, r1, r2, r3, r4]) rfl ⟨⟨.slice oa yo.length oc, .slice da z.length dc, dus, by simp only [HV.out, Int.toNat_natCast], ?_, ?_, ?_⟩, below_set5 (HBB.out.trans (HB15.out.mono HBB.out.size)) (Nat.le_succ _) _ _ _ _ _⟩
        · simp only [HV.out]
          exact (OwnSY.set5 (q := w.heap.size + 1) (vo := .slice oa yo.length oc) (v := .slice da z.length dc) (us := dus) (z := dsD f n z) ⟨HO15.out, HD15.out.mono3 (by omega), HSEP.out⟩ (by omega) _ _ _ _ _).o.mono (by omega)
        · simp only [HV.out, Int.toNat_natCast]
          exact (OwnSY.set5 (q := w.heap.size + 1) (vo := .slice oa yo.length oc) (v := .slice da z.length dc) (us := dus) (z := dsD f n z) ⟨HO15.out, HD15.out.mono3 (by omega), HSEP.out⟩ (by omega) _ _ _ _ _).m.mono3 (by omega)
        · exact HSEP.out)
    case neg =>
      have HV := Lib.hid (fun (α : Type) (b n' m o : α) => ds_lim HO.out HS.out (fun k => hlim k.2) b n' m o)
      go_upto_region 13 with fail
      have MK := Lib.hid (show ∀ w' : World, Below wc.heap.size wc w' → w'.cell? ⟨w.heap.size, 0, none⟩ = some (.int .i64 h) ∧ w'.cell? ⟨w.heap.size, 1, none⟩ = some (.slice ao yo.length co) from fun w' hw => ⟨(HXB.out.step hw).s0, (HXB.out.step hw).s1⟩)
      go_region_held3 (fun w' => w'.cell? ⟨w.heap.size, 0, none⟩ = some (.int .i64 h) ∧ w'.cell? ⟨w.heap.size, 1, none⟩ = some (.slice ao yo.length co)) (first | (refine MK.out _ ?_; first | with_reducible exact drew_step _ | with_reducible exact HB13.out | with_reducible exact HB14.out | with_reducible exact HB15.out | fail) | exact ⟨cell_set5 (HXB.out.step HB15.out).s0 (by omega) _ _ _ _ _, cell_set5 (HXB.out.step HB15.out).s1 (by omega) _ _ _ _ _⟩ | fail) (first
        | (go_at_call 73; refine (l00Own_any ao yo co _ (HYB.out.step (drew_step _)) (by rw [HYZ.out]; omega)).mono ?_; rintro e w13 ⟨⟨v13, rfl, hv13⟩, hb13⟩; obtain ⟨oa, oc, hf13⟩ := rowForm hv13; subst hf13; have HB13 := Lib.hid (show Below wc.heap.size wc w13 from (drew_step wc).trans hb13); have HO13 := Lib.hid (show OwnI w13 wc.heap.size (.slice oa yo.length oc) yo from hv13); clear hv13 hb13; have hs13 := HB13.out.size)
        | (go_at_call 80; refine (l03Turned_any q8 f z.length va (dsC f n z) vc w13 (HBX.out.step HB13.out) (HRR.out.step HB13.out) (by rw [HCL.out]; omega) (by omega) (fun r hr => (HCG.out.rows r hr).1)).mono ?_; rintro e w14 ⟨⟨da, dc, dus, rfl, hd14⟩, hb14⟩; have HB14 := Lib.hid (show Below wc.heap.size wc w14 from HB13.out.trans (hb14.mono hs13)); have HO14 := Lib.hid (HO13.out.step hb14); have HD14 := Lib.hid hd14; clear hd14 hb14; have hs14 := HB14.out.size)
        | (go_at_call 83; refine (told_eq h f ((dsC f n z).length : Int) oa yo oc da (dsD f n z) dc z.length w14 dsD_len ⟨Ints_of_own HO14.out, HD14.out.rows2v⟩ ⟨by rw [HYZ.out]; omega, ⟨by rw [dsD_len]; omega, fun r hr => by rw [(HDG.out.rows r hr).1, HCL.out]; omega⟩⟩).mono ?_; rintro e w15 ⟨h15, hb15⟩; have he : e = .returned (.tuple #[.agg #[.int .i64 0, .slice none 0 0, .int .i64 0, .int .i64 0, .slice none 0 0], .int .i64 3]) := (by rcases h15 with ⟨h, _⟩ | ⟨_, h⟩; exact absurd ((dsD_sch HO.out hz12).1 h) hlim; exact h); subst he; clear h15; have HB15 := Lib.hid (show Below wc.heap.size wc w15 from HB14.out.trans (hb15.mono hs14)); have HO15 := Lib.hid (HO14.out.step hb15); have HD15 := Lib.hid (HD14.out.step hb15); have UZ := HZB.out.step HB15.out; have r0 := UZ.s0; have rf0 := UZ.frozen 0; have r1 := UZ.s1; have rf1 := UZ.frozen 1; have r2 := UZ.s2; have rf2 := UZ.frozen 2; have r3 := UZ.s3; have rf3 := UZ.frozen 3; have r4 := UZ.s4; have rf4 := UZ.frozen 4; have lz := UZ.lt; clear UZ hb15))
      all_goals (
        go_wp2_with fail
        refine bodyPost_ret (v := .tuple #[.agg #[.int .i64 0, .slice none 0 0, .int .i64 0, .int .i64 0, .slice none 0 0], .int .i64 3]) (by simp [results, Try.results32, go_sem, r0, r1, r2, r3, r4]) rfl ⟨⟨.slice none 0 0, .slice none 0 0, [], by simp only [HV.out], ?_, ?_, fun u hu => by cases hu⟩, below_set5 (HBB.out.trans (HB15.out.mono HBB.out.size)) (Nat.le_succ _) _ _ _ _ _⟩
        · simp only [HV.out]; exact OwnI.nil _ _
        · simp only [HV.out]; exact Own.nil3 _ _)
end Go.Proofs.Ytnebkhelobpkpaa

namespace Go.Proofs.Ytnebkhelobpkpaa
open Go.ChangeShapes Go.WideShapes Go.ChangeAt Go.RowKit Go.Deep
set_option linter.unusedVariables false
namespace Dus

/-- What is carried over the second half. -/
structure Carry (v4 : World) (g0 : Nat) (yo0 : List Int) (z0 : List (List Int)) (px0 : Nat) (h0 : Int) (f0 : Int) (l0 : Int) (bs : Nat) (gow : Option Addr) (gcw : Nat) (ryo : List Int) (ag : Option Addr) (cg : Nat) (us : List Value) (rz : List (List Int)) (qg : Nat) (rh : Int) (rf : Int) (rk : Int) (W : World) : Prop where
  e : Below v4.heap.size v4 W
  x0 : OwnS W g0 yo0 z0
  b0 : Boxes W px0 48 #[.int .i64 h0, .slice (some ⟨g0, 0, none⟩) yo0.length yo0.length, .int .i64 f0, .int .i64 l0, .slice (some ⟨g0 + 4, 0, none⟩) z0.length z0.length]
  g : OwnSY W bs (.slice gow ryo.length gcw) ryo (.slice ag rz.length cg) us rz
  gb : Boxes W qg 48 #[.int .i64 rh, .slice gow ryo.length gcw, .int .i64 rf, .int .i64 rk, .slice ag rz.length cg]

theorem Carry.step {v4 : World} {g0 : Nat} {yo0 : List Int} {z0 : List (List Int)} {px0 : Nat} {h0 : Int} {f0 : Int} {l0 : Int} {bs : Nat} {gow : Option Addr} {gcw : Nat} {ryo : List Int} {ag : Option Addr} {cg : Nat} {us : List Value} {rz : List (List Int)} {qg : Nat} {rh : Int} {rf : Int} {rk : Int} {W W' : World} (hb : Below W.heap.size W W') (k : Carry v4 g0 yo0 z0 px0 h0 f0 l0 bs gow gcw ryo ag cg us rz qg rh rf rk W) : Carry v4 g0 yo0 z0 px0 h0 f0 l0 bs gow gcw ryo ag cg us rz qg rh rf rk W' := ⟨chain k.e hb, k.x0.step hb, k.b0.step hb, k.g.step hb, k.gb.step hb⟩
theorem keep10 {w w' : World} {p1 p2 p3 p4 p5 p6 p7 p8 p9 p10 : Addr} {u1 u2 u3 u4 u5 u6 u7 u8 u9 u10 : Value} {C : World → Prop} (hb : Below w.heap.size w w') (hC : C w → C w') (h : w.cell? p1 = some u1 ∧ w.cell? p2 = some u2 ∧ w.cell? p3 = some u3 ∧ w.cell? p4 = some u4 ∧ w.cell? p5 = some u5 ∧ w.cell? p6 = some u6 ∧ w.cell? p7 = some u7 ∧ w.cell? p8 = some u8 ∧ w.cell? p9 = some u9 ∧ w.cell? p10 = some u10 ∧ C w) : w'.cell? p1 = some u1 ∧ w'.cell? p2 = some u2 ∧ w'.cell? p3 = some u3 ∧ w'.cell? p4 = some u4 ∧ w'.cell? p5 = some u5 ∧ w'.cell? p6 = some u6 ∧ w'.cell? p7 = some u7 ∧ w'.cell? p8 = some u8 ∧ w'.cell? p9 = some u9 ∧ w'.cell? p10 = some u10 ∧ C w' :=
  ⟨cell_step hb h.1, cell_step hb h.2.1, cell_step hb h.2.2.1, cell_step hb h.2.2.2.1, cell_step hb h.2.2.2.2.1, cell_step hb h.2.2.2.2.2.1, cell_step hb h.2.2.2.2.2.2.1, cell_step hb h.2.2.2.2.2.2.2.1, cell_step hb h.2.2.2.2.2.2.2.2.1, cell_step hb h.2.2.2.2.2.2.2.2.2.1, hC h.2.2.2.2.2.2.2.2.2.2⟩

set_option maxHeartbeats 4000000 in
set_option maxRecDepth 100000 in
theorem law_of (h0 f0 l0 : Int) (ao0 : Option Addr) (yo0 : List Int) (co0 : Nat) (a0 : Option Addr) (z0 : List (List Int)) (c0 : Nat) (rh rf rk : Int) (ryo : List Int) (rz : List (List Int)) (rc : Int) (w : World) (hr0 : InS w ao0 yo0 a0 z0) (hl0 : LenS yo0 z0) (wfh0 : (Lit.int .i64 h0).wf = true) (wff0 : (Lit.int .i64 f0).wf = true) (wfl0 : (Lit.int .i64 l0).wf = true)
    
    (hS : ∀ (bo0 : Option Addr) (eo0 : Nat) (b0 : Option Addr) (d0 : Nat) (W : World), InS W bo0 yo0 b0 z0 → SmS yo0 z0 → Calls Try.prog 32 #[.agg #[.int .i64 h0, .slice bo0 yo0.length eo0, .int .i64 f0, .int .i64 l0, .slice b0 z0.length d0]] W (GivesSY W rh rf rk ryo rz rc))
    (hI : ∀ (bo0 : Option Addr) (eo0 : Nat) (b0 : Option Addr) (d0 : Nat) (W : World), InS W bo0 yo0 b0 z0 → SmS yo0 z0 → Calls Try.prog 33 #[.agg #[.int .i64 h0, .slice bo0 yo0.length eo0, .int .i64 f0, .int .i64 l0, .slice b0 z0.length d0]] W (GivesSY W rh rf rk ryo rz rc))
    (hsm : SmS ryo rz ∧ ryo.length ≤ 1000) :
    Calls Try.prog 6 #[.agg #[.int .i64 h0, .slice ao0 yo0.length co0, .int .i64 f0, .int .i64 l0, .slice a0 z0.length c0]] w fun e w' => e = .returned (.bool true) ∧ Below w.heap.size w w' := by
  have HSP := Lib.hid hS
  have HIM := Lib.hid hI
  clear hS hI
  have HSM := Lib.hid hsm
  have hnz : rz.length ≤ 1048576 := hsm.1.r.1
  have hny : ryo.length ≤ 1000 := hsm.2
  have htn := total_nonneg rz
  clear hsm
  have D := Lib.hid (Below.refl w.heap.size w)
  have R0 := Lib.hid hr0
  clear hr0
  have L0 := Lib.hid hl0
  clear hl0
  go_enter Try.func6, Try.ntmps6
  go_wp2_with fail
  have hb := (Below.refl (w).heap.size (w)).alloc (Nat.le_refl _) (.cells #[.int .i64 h0, .slice ao0 yo0.length co0, .int .i64 f0, .int .i64 l0, .slice a0 z0.length c0] 40)
  have ha0 : Boxes ((w).alloc (.cells #[.int .i64 h0, .slice ao0 yo0.length co0, .int .i64 f0, .int .i64 l0, .slice a0 z0.length c0] 40)) (w).heap.size 40 #[.int .i64 h0, .slice ao0 yo0.length co0, .int .i64 f0, .int .i64 l0, .slice a0 z0.length c0] := World.alloc_heap_new _ _
  replace D := Lib.hid (chain D.out hb)
  replace R0 := Lib.hid (R0.out.step hb)
  clear hb
  skip
  generalize hv1 : (w).alloc (.cells #[.int .i64 h0, .slice ao0 yo0.length co0, .int .i64 f0, .int .i64 l0, .slice a0 z0.length c0] 40) = v1 at *
  have B0 := Lib.hid ha0
  clear ha0
  clear hv1
  refine (szScheme2_any h0 f0 l0 ao0 yo0 co0 a0 z0 c0 1048576 _ R0.out (by omega) (by omega) L0.out).mono ?_
  rintro e w1 ⟨⟨u0, hu0, rfl⟩, hb⟩
  replace D := Lib.hid (chain D.out hb)
  replace R0 := Lib.hid (R0.out.step hb)
  replace B0 := Lib.hid (B0.out.step hb)
  clear hb
  rcases hu0 with rfl | ⟨hu00, hut0, hu01, hsm0⟩
  · go_wp2_with fail
    go_ret
    exact ⟨rfl, D.out⟩
  have S0 := Lib.hid hsm0
  have hz0 : z0.length ≤ 1048576 := hsm0.r.1
  clear hsm0
  have TT0 := Lib.hid hut0
  clear hut0
  have B0c0 := (B0.out).s0
  have B0c1 := (B0.out).s1
  have B0c2 := (B0.out).s2
  have B0c3 := (B0.out).s3
  have B0c4 := (B0.out).s4
  have B0lt := (B0.out).lt
  go_wp2_with fail
  clear B0c0 B0c1 B0c2 B0c3 B0c4 B0lt
  refine (toScheme_any h0 f0 l0 ao0 yo0 co0 a0 z0 c0 _ R0.out S0.out).mono ?_
  rintro e w2 ⟨rfl, hz, hrow, hb⟩
  replace D := Lib.hid (chain D.out hb)
  replace R0 := Lib.hid (R0.out.step hb)
  replace B0 := Lib.hid (B0.out.step hb)
  have M0 := Lib.hid (hrow.rows)
  clear hb hrow hz
  have B0c0 := (B0.out).s0
  have B0c1 := (B0.out).s1
  have B0c2 := (B0.out).s2
  have B0c3 := (B0.out).s3
  have B0c4 := (B0.out).s4
  have B0lt := (B0.out).lt
  go_wp2_with fail
  clear B0c0 B0c1 B0c2 B0c3 B0c4 B0lt
  refine (HSP.out _ _ _ _ _ M0.out S0.out).mono ?_
  rintro e w3 ⟨⟨v0o, v0, us0, rfl, hwo, hwm, hws⟩, hb⟩
  obtain ⟨wo, wco, rfl⟩ := hwo.form
  obtain ⟨a, c, rfl⟩ := hwm.form
  have hw0 : InS w3 wo ryo a rz := ⟨Ints_of_own hwo, hwm.rows2v⟩
  clear hwo hwm hws
  replace D := Lib.hid (chain D.out hb)
  replace R0 := Lib.hid (R0.out.step hb)
  replace B0 := Lib.hid (B0.out.step hb)
  have W0 := Lib.hid hw0
  clear hb hw0 M0
  have B0c0 := (B0.out).s0
  have B0c1 := (B0.out).s1
  have B0c2 := (B0.out).s2
  have B0c3 := (B0.out).s3
  have B0c4 := (B0.out).s4
  have B0lt := (B0.out).lt
  go_wp2_with fail
  clear B0c0 B0c1 B0c2 B0c3 B0c4 B0lt
  have hb := (Below.refl w3.heap.size w3).alloc (Nat.le_refl _) (.cells #[.int .i64 rh, .slice wo ryo.length wco, .int .i64 rf, .int .i64 rk, .slice a rz.length c] 48)
  have ha : Boxes (w3.alloc (.cells #[.int .i64 rh, .slice wo ryo.length wco, .int .i64 rf, .int .i64 rk, .slice a rz.length c] 48)) w3.heap.size 48 #[.int .i64 rh, .slice wo ryo.length wco, .int .i64 rf, .int .i64 rk, .slice a rz.length c] := World.alloc_heap_new w3 _
  generalize w3.alloc (.cells #[.int .i64 rh, .slice wo ryo.length wco, .int .i64 rf, .int .i64 rk, .slice a rz.length c] 48) = v4 at *
  replace D := Lib.hid (chain D.out hb)
  replace R0 := Lib.hid (R0.out.step hb)
  replace B0 := Lib.hid (B0.out.step hb)
  replace W0 := Lib.hid (W0.out.step hb)
  have A := Lib.hid ha
  clear hb ha
  generalize w3.heap.size = qa at *
  have E := Lib.hid (Below.refl v4.heap.size v4)
  refine (toScheme_any h0 f0 l0 ao0 yo0 co0 a0 z0 c0 _ (R0.out.step E.out) S0.out).mono ?_
  rintro e w4 ⟨rfl, hz, hrow, hb⟩
  obtain ⟨g0, hg0⟩ : ∃ g, v4.heap.size + 3 = g := ⟨_, rfl⟩
  rw [hg0] at hrow ⊢
  have hlo : v4.heap.size ≤ g0 := by omega
  replace E := Lib.hid (chain E.out hb)
  have X0 := Lib.hid hrow
  have G0 := Lib.hid (show v4.heap.size ≤ g0 ∧ g0 + 5 + z0.length ≤ w4.heap.size from ⟨hlo, by omega⟩)
  clear hb hrow hz hg0 hlo
  have B0c0 := (B0.out.step E.out).s0
  have B0c1 := (B0.out.step E.out).s1
  have B0c2 := (B0.out.step E.out).s2
  have B0c3 := (B0.out.step E.out).s3
  have B0c4 := (B0.out.step E.out).s4
  have B0lt := (B0.out.step E.out).lt
  have Ac0 := (A.out.step E.out).s0
  have Ac1 := (A.out.step E.out).s1
  have Ac2 := (A.out.step E.out).s2
  have Ac3 := (A.out.step E.out).s3
  have Ac4 := (A.out.step E.out).s4
  have Alt := (A.out.step E.out).lt
  go_wp2_with fail
  clear B0c0 B0c1 B0c2 B0c3 B0c4 B0lt Ac0 Ac1 Ac2 Ac3 Ac4 Alt
  have hsz : w4.heap.size ≤ (w4.alloc (.cells #[.int .i64 h0, .slice (some ⟨g0, 0, none⟩) yo0.length yo0.length, .int .i64 f0, .int .i64 l0, .slice (some ⟨g0 + 4, 0, none⟩) z0.length z0.length] 48)).heap.size := by simp
  replace G0 := Lib.hid (show v4.heap.size ≤ g0 ∧ g0 + 5 + z0.length ≤ (w4.alloc (.cells #[.int .i64 h0, .slice (some ⟨g0, 0, none⟩) yo0.length yo0.length, .int .i64 f0, .int .i64 l0, .slice (some ⟨g0 + 4, 0, none⟩) z0.length z0.length] 48)).heap.size from ⟨G0.out.1, Nat.le_trans G0.out.2 hsz⟩)
  have HPX0 := Lib.hid (show v4.heap.size ≤ w4.heap.size from E.out.size)
  clear hsz
  have hb := (Below.refl w4.heap.size w4).alloc (Nat.le_refl _) (.cells #[.int .i64 h0, .slice (some ⟨g0, 0, none⟩) yo0.length yo0.length, .int .i64 f0, .int .i64 l0, .slice (some ⟨g0 + 4, 0, none⟩) z0.length z0.length] 48)
  have ha : Boxes (w4.alloc (.cells #[.int .i64 h0, .slice (some ⟨g0, 0, none⟩) yo0.length yo0.length, .int .i64 f0, .int .i64 l0, .slice (some ⟨g0 + 4, 0, none⟩) z0.length z0.length] 48)) w4.heap.size 48 #[.int .i64 h0, .slice (some ⟨g0, 0, none⟩) yo0.length yo0.length, .int .i64 f0, .int .i64 l0, .slice (some ⟨g0 + 4, 0, none⟩) z0.length z0.length] := World.alloc_heap_new w4 _
  generalize w4.alloc (.cells #[.int .i64 h0, .slice (some ⟨g0, 0, none⟩) yo0.length yo0.length, .int .i64 f0, .int .i64 l0, .slice (some ⟨g0 + 4, 0, none⟩) z0.length z0.length] 48) = y0 at *
  replace E := Lib.hid (chain E.out hb)
  replace X0 := Lib.hid (X0.out.step hb)
  have PX0 := Lib.hid ha
  clear hb ha
  generalize w4.heap.size = px0 at *
  refine (HIM.out _ _ _ _ y0 X0.out.rows S0.out).mono ?_
  rintro e w5 ⟨⟨vgo, vg, us, rfl, hgo, hgm, hgs⟩, hb⟩
  obtain ⟨gow, gcw, rfl⟩ := hgo.form
  obtain ⟨ag, cg, rfl⟩ := hgm.form
  have hown := OwnSY.mk hgo hgm hgs
  clear hgo hgm hgs
  obtain ⟨bs, hbs⟩ : ∃ b, y0.heap.size = b := ⟨_, rfl⟩
  have HBS := Lib.hid (show v4.heap.size ≤ bs by have := G0.out; omega)
  have HQ := Lib.hid (show bs ≤ w5.heap.size by have := hb.size; omega)
  replace E := Lib.hid (chain E.out hb)
  replace X0 := Lib.hid (X0.out.step hb)
  replace PX0 := Lib.hid (PX0.out.step hb)
  rw [hbs] at hown
  rw [hbs] at G0
  have G := Lib.hid hown
  clear hb hown hbs
  have B0c0 := (B0.out.step E.out).s0
  have B0c1 := (B0.out.step E.out).s1
  have B0c2 := (B0.out.step E.out).s2
  have B0c3 := (B0.out.step E.out).s3
  have B0c4 := (B0.out.step E.out).s4
  have B0lt := (B0.out.step E.out).lt
  have Ac0 := (A.out.step E.out).s0
  have Ac1 := (A.out.step E.out).s1
  have Ac2 := (A.out.step E.out).s2
  have Ac3 := (A.out.step E.out).s3
  have Ac4 := (A.out.step E.out).s4
  have Alt := (A.out.step E.out).lt
  have PX0c0 := (PX0.out).s0
  have PX0c1 := (PX0.out).s1
  have PX0c2 := (PX0.out).s2
  have PX0c3 := (PX0.out).s3
  have PX0c4 := (PX0.out).s4
  have PX0lt := (PX0.out).lt
  go_wp2_with fail
  clear B0c0 B0c1 B0c2 B0c3 B0c4 B0lt Ac0 Ac1 Ac2 Ac3 Ac4 Alt PX0c0 PX0c1 PX0c2 PX0c3 PX0c4 PX0lt
  have hb := (Below.refl w5.heap.size w5).alloc (Nat.le_refl _) (.cells #[.int .i64 rh, .slice gow ryo.length gcw, .int .i64 rf, .int .i64 rk, .slice ag rz.length cg] 48)
  have ha : Boxes (w5.alloc (.cells #[.int .i64 rh, .slice gow ryo.length gcw, .int .i64 rf, .int .i64 rk, .slice ag rz.length cg] 48)) w5.heap.size 48 #[.int .i64 rh, .slice gow ryo.length gcw, .int .i64 rf, .int .i64 rk, .slice ag rz.length cg] := World.alloc_heap_new w5 _
  generalize w5.alloc (.cells #[.int .i64 rh, .slice gow ryo.length gcw, .int .i64 rf, .int .i64 rk, .slice ag rz.length cg] 48) = v7 at *
  replace E := Lib.hid (chain E.out hb)
  replace X0 := Lib.hid (X0.out.step hb)
  replace PX0 := Lib.hid (PX0.out.step hb)
  replace G := Lib.hid (G.out.step hb)
  have GB := Lib.hid ha
  clear hb ha
  generalize w5.heap.size = qg at *
  refine (eqScheme_same rh rf rk gow wo ryo gcw wco ag a rz cg c _ G.out.ins (W0.out.step E.out) HSM.out.1.lens).mono ?_
  rintro e w6 ⟨rfl, hb⟩
  replace E := Lib.hid (chain E.out hb)
  replace X0 := Lib.hid (X0.out.step hb)
  replace PX0 := Lib.hid (PX0.out.step hb)
  replace G := Lib.hid (G.out.step hb)
  replace GB := Lib.hid (GB.out.step hb)
  clear hb
  have K : Carry v4 g0 yo0 z0 px0 h0 f0 l0 bs gow gcw ryo ag cg us rz qg rh rf rk _ := ⟨E.out, X0.out, PX0.out, G.out, GB.out⟩
  have B0c0 := (B0.out.step E.out).s0
  have B0c1 := (B0.out.step E.out).s1
  have B0c2 := (B0.out.step E.out).s2
  have B0c3 := (B0.out.step E.out).s3
  have B0c4 := (B0.out.step E.out).s4
  have B0lt := (B0.out.step E.out).lt
  have PX0c0 := (PX0.out).s0
  have PX0c1 := (PX0.out).s1
  have PX0c2 := (PX0.out).s2
  have PX0c3 := (PX0.out).s3
  have PX0c4 := (PX0.out).s4
  have PX0lt := (PX0.out).lt
  go_wp2_with fail
  go_region_held3 (fun w' => w'.cell? ⟨w.heap.size, 0, none⟩ = some (.int .i64 h0) ∧ w'.cell? ⟨w.heap.size, 1, none⟩ = some (.slice ao0 yo0.length co0) ∧ w'.cell? ⟨w.heap.size, 2, none⟩ = some (.int .i64 f0) ∧ w'.cell? ⟨w.heap.size, 3, none⟩ = some (.int .i64 l0) ∧ w'.cell? ⟨w.heap.size, 4, none⟩ = some (.slice a0 z0.length c0) ∧ w'.cell? ⟨px0, 0, none⟩ = some (.int .i64 h0) ∧ w'.cell? ⟨px0, 1, none⟩ = some (.slice (some ⟨g0, 0, none⟩) yo0.length yo0.length) ∧ w'.cell? ⟨px0, 2, none⟩ = some (.int .i64 f0) ∧ w'.cell? ⟨px0, 3, none⟩ = some (.int .i64 l0) ∧ w'.cell? ⟨px0, 4, none⟩ = some (.slice (some ⟨g0 + 4, 0, none⟩) z0.length z0.length) ∧ Carry v4 g0 yo0 z0 px0 h0 f0 l0 bs gow gcw ryo ag cg us rz qg rh rf rk w') (first | exact ⟨cell_step (drew_step _) B0c0, cell_step (drew_step _) B0c1, cell_step (drew_step _) B0c2, cell_step (drew_step _) B0c3, cell_step (drew_step _) B0c4, cell_step (drew_step _) PX0c0, cell_step (drew_step _) PX0c1, cell_step (drew_step _) PX0c2, cell_step (drew_step _) PX0c3, cell_step (drew_step _) PX0c4, K.step (drew_step _)⟩ | exact keep10 hb (fun k => k.step hb) (by assumption)) (first | (go_at_call 19; obtain ⟨_, _, _, _, _, _, _, _, _, _, KK⟩ := ‹_ ∧ _ ∧ _ ∧ _ ∧ _ ∧ _ ∧ _ ∧ _ ∧ _ ∧ _ ∧ Carry v4 g0 yo0 z0 px0 h0 f0 l0 bs gow gcw ryo ag cg us rz qg rh rf rk _›; refine (toScheme_any h0 f0 l0 ao0 yo0 co0 a0 z0 c0 _ (R0.out.step KK.e) S0.out).mono ?_; rintro e wf ⟨rfl, -, hof, hb⟩; have hx1 := KK.x0.step hb; clear KK) | (go_at_call 22; refine (eqScheme_same h0 f0 l0 _ _ yo0 _ _ _ _ z0 _ _ _ hx1.rows hof.rows S0.out.lens).mono ?_; rintro e w9 ⟨rfl, hb⟩))
  clear B0c0 B0c1 B0c2 B0c3 B0c4 B0lt PX0c0 PX0c1 PX0c2 PX0c3 PX0c4 PX0lt K hb hx1 hof
  obtain ⟨-, -, -, -, -, -, -, -, -, -, K⟩ := ‹_ ∧ _ ∧ _ ∧ _ ∧ _ ∧ _ ∧ _ ∧ _ ∧ _ ∧ _ ∧ Carry v4 g0 yo0 z0 px0 h0 f0 l0 bs gow gcw ryo ag cg us rz qg rh rf rk _›
  replace E := Lib.hid K.e
  replace X0 := Lib.hid K.x0
  replace PX0 := Lib.hid K.b0
  replace G := Lib.hid K.g
  replace GB := Lib.hid K.gb
  clear K
  have B0c0 := (B0.out.step E.out).s0
  have B0c1 := (B0.out.step E.out).s1
  have B0c2 := (B0.out.step E.out).s2
  have B0c3 := (B0.out.step E.out).s3
  have B0c4 := (B0.out.step E.out).s4
  have B0lt := (B0.out.step E.out).lt
  have Ac0 := (A.out.step E.out).s0
  have Ac1 := (A.out.step E.out).s1
  have Ac2 := (A.out.step E.out).s2
  have Ac3 := (A.out.step E.out).s3
  have Ac4 := (A.out.step E.out).s4
  have Alt := (A.out.step E.out).lt
  have PX0c0 := (PX0.out).s0
  have PX0c1 := (PX0.out).s1
  have PX0c2 := (PX0.out).s2
  have PX0c3 := (PX0.out).s3
  have PX0c4 := (PX0.out).s4
  have PX0lt := (PX0.out).lt
  have GBc0 := (GB.out).s0
  have GBc1 := (GB.out).s1
  have GBc2 := (GB.out).s2
  have GBc3 := (GB.out).s3
  have GBc4 := (GB.out).s4
  have GBlt := (GB.out).lt
  go_wp2_with fail
  clear B0c0 B0c1 B0c2 B0c3 B0c4 B0lt Ac0 Ac1 Ac2 Ac3 Ac4 Alt PX0c0 PX0c1 PX0c2 PX0c3 PX0c4 PX0lt GBc0 GBc1 GBc2 GBc3 GBc4 GBlt
  refine (markScheme3_any h0 f0 l0 g0 _ _ yo0 z0 1 _ X0.out S0.out (by omega) (by omega) rfl).mono ?_
  rintro e w7 ⟨rfl, ht⟩
  have hgl := Nat.le_of_lt X0.out.top.lt
  have hk0 : (0 : Int) ≤ 1 + (yo0.length + total z0) := by have := total_nonneg z0; omega
  have hku0 : 1 + (yo0.length + total z0) ≤ 1048577 := by have := TT0.out; have := total_nonneg z0; omega
  generalize 1 + ((yo0.length : Int) + total z0) = k0 at hk0 hku0 ⊢
  replace E := Lib.hid (E.out.trans (ht.below G0.out.1 hgl))
  have hhi : g0 + 5 + z0.length ≤ bs := by have := G0.out.2; omega
  replace G := Lib.hid (OwnSY.touch ht G.out hhi)
  replace GB := Lib.hid (GB.out.touch ht (by have := HQ.out; omega))
  clear ht hgl hhi
  clear X0
  clear PX0
  have Ac0 := (A.out.step E.out).s0
  have Ac1 := (A.out.step E.out).s1
  have Ac2 := (A.out.step E.out).s2
  have Ac3 := (A.out.step E.out).s3
  have Ac4 := (A.out.step E.out).s4
  have Alt := (A.out.step E.out).lt
  have GBc0 := (GB.out).s0
  have GBc1 := (GB.out).s1
  have GBc2 := (GB.out).s2
  have GBc3 := (GB.out).s3
  have GBc4 := (GB.out).s4
  have GBlt := (GB.out).lt
  go_wp2_with fail
  clear Ac0 Ac1 Ac2 Ac3 Ac4 Alt GBc0 GBc1 GBc2 GBc3 GBc4 GBlt
  refine (eqScheme_same rh rf rk gow wo ryo gcw wco ag a rz cg c _ G.out.ins (W0.out.step E.out) HSM.out.1.lens).mono ?_
  rintro e w8 ⟨rfl, hb⟩
  replace E := Lib.hid (chain E.out hb)
  replace G := Lib.hid (G.out.step hb)
  replace GB := Lib.hid (GB.out.step hb)
  clear hb
  have GBc0 := (GB.out).s0
  have GBc1 := (GB.out).s1
  have GBc2 := (GB.out).s2
  have GBc3 := (GB.out).s3
  have GBc4 := (GB.out).s4
  have GBlt := (GB.out).lt
  go_wp2_with fail
  clear GBc0 GBc1 GBc2 GBc3 GBc4 GBlt
  refine (markSchO_any rh rf rk _ ryo _ us rz bs 1 _ G.out HSM.out.1 (by omega) (by omega) (Nat.le_trans HQ.out (Nat.le_of_lt GB.out.lt))).mono ?_
  rintro e w9 ⟨rfl, hown, hb, hsz, hkt⟩
  replace E := Lib.hid (E.out.trans (hb.mono HBS.out))
  replace G := Lib.hid hown
  replace GB := Lib.hid (GB.out.keeps hkt (by decide))
  clear hown hb hsz hkt
  have t2 : ((1 : Int) + ((ryo.length : Int) + total rz) != (1 : Int) + ((ryo.length : Int) + total rz)) = false := by simp
  have GBc0 := (GB.out).s0
  have GBc1 := (GB.out).s1
  have GBc2 := (GB.out).s2
  have GBc3 := (GB.out).s3
  have GBc4 := (GB.out).s4
  have GBlt := (GB.out).lt
  go_wp2_with fail
  clear GBc0 GBc1 GBc2 GBc3 GBc4 GBlt
  refine (heldSchO_any rh rf rk gow gcw ryo ag cg rz 1 _ G.out.sm HSM.out.1 (by omega) (by omega)).mono ?_
  rintro e w10 ⟨rfl, hb⟩
  replace E := Lib.hid (chain E.out hb)
  replace G := Lib.hid (G.out.step hb)
  replace GB := Lib.hid (GB.out.step hb)
  clear hb
  have B0c0 := (B0.out.step E.out).s0
  have B0c1 := (B0.out.step E.out).s1
  have B0c2 := (B0.out.step E.out).s2
  have B0c3 := (B0.out.step E.out).s3
  have B0c4 := (B0.out.step E.out).s4
  have B0lt := (B0.out.step E.out).lt
  go_wp2_with fail
  clear B0c0 B0c1 B0c2 B0c3 B0c4 B0lt
  refine (toScheme_any h0 f0 l0 ao0 yo0 co0 a0 z0 c0 _ (R0.out.step E.out) S0.out).mono ?_
  rintro e w11 ⟨rfl, hz, hrow, hb⟩
  replace E := Lib.hid (chain E.out hb)
  replace G := Lib.hid (G.out.step hb)
  replace GB := Lib.hid (GB.out.step hb)
  have M0 := Lib.hid (hrow.rows)
  clear hb hrow hz
  have B0c0 := (B0.out.step E.out).s0
  have B0c1 := (B0.out.step E.out).s1
  have B0c2 := (B0.out.step E.out).s2
  have B0c3 := (B0.out.step E.out).s3
  have B0c4 := (B0.out.step E.out).s4
  have B0lt := (B0.out.step E.out).lt
  have Ac0 := (A.out.step E.out).s0
  have Ac1 := (A.out.step E.out).s1
  have Ac2 := (A.out.step E.out).s2
  have Ac3 := (A.out.step E.out).s3
  have Ac4 := (A.out.step E.out).s4
  have Alt := (A.out.step E.out).lt
  have GBc0 := (GB.out).s0
  have GBc1 := (GB.out).s1
  have GBc2 := (GB.out).s2
  have GBc3 := (GB.out).s3
  have GBc4 := (GB.out).s4
  have GBlt := (GB.out).lt
  go_wp2_with fail
  clear B0c0 B0c1 B0c2 B0c3 B0c4 B0lt Ac0 Ac1 Ac2 Ac3 Ac4 Alt GBc0 GBc1 GBc2 GBc3 GBc4 GBlt
  refine (HIM.out _ _ _ _ _ M0.out S0.out).mono ?_
  rintro e w12 ⟨⟨vho, vh, uh, rfl, hoh, hmh, hsh⟩, hb⟩
  obtain ⟨how, hcw, rfl⟩ := hoh.form
  obtain ⟨ah, ch, rfl⟩ := hmh.form
  have hown := OwnSY.mk hoh hmh hsh
  clear hoh hmh hsh
  replace E := Lib.hid (chain E.out hb)
  replace G := Lib.hid (G.out.step hb)
  replace GB := Lib.hid (GB.out.step hb)
  have H := Lib.hid hown
  clear hb hown M0
  have B0c0 := (B0.out.step E.out).s0
  have B0c1 := (B0.out.step E.out).s1
  have B0c2 := (B0.out.step E.out).s2
  have B0c3 := (B0.out.step E.out).s3
  have B0c4 := (B0.out.step E.out).s4
  have B0lt := (B0.out.step E.out).lt
  have Ac0 := (A.out.step E.out).s0
  have Ac1 := (A.out.step E.out).s1
  have Ac2 := (A.out.step E.out).s2
  have Ac3 := (A.out.step E.out).s3
  have Ac4 := (A.out.step E.out).s4
  have Alt := (A.out.step E.out).lt
  have GBc0 := (GB.out).s0
  have GBc1 := (GB.out).s1
  have GBc2 := (GB.out).s2
  have GBc3 := (GB.out).s3
  have GBc4 := (GB.out).s4
  have GBlt := (GB.out).lt
  go_wp2_with fail
  clear B0c0 B0c1 B0c2 B0c3 B0c4 B0lt Ac0 Ac1 Ac2 Ac3 Ac4 Alt GBc0 GBc1 GBc2 GBc3 GBc4 GBlt
  have hb := (Below.refl w12.heap.size w12).alloc (Nat.le_refl _) (.cells #[.int .i64 rh, .slice how ryo.length hcw, .int .i64 rf, .int .i64 rk, .slice ah rz.length ch] 48)
  have ha : Boxes (w12.alloc (.cells #[.int .i64 rh, .slice how ryo.length hcw, .int .i64 rf, .int .i64 rk, .slice ah rz.length ch] 48)) w12.heap.size 48 #[.int .i64 rh, .slice how ryo.length hcw, .int .i64 rf, .int .i64 rk, .slice ah rz.length ch] := World.alloc_heap_new w12 _
  generalize w12.alloc (.cells #[.int .i64 rh, .slice how ryo.length hcw, .int .i64 rf, .int .i64 rk, .slice ah rz.length ch] 48) = v9 at *
  replace E := Lib.hid (chain E.out hb)
  replace G := Lib.hid (G.out.step hb)
  replace GB := Lib.hid (GB.out.step hb)
  replace H := Lib.hid (H.out.step hb)
  have HB := Lib.hid ha
  clear hb ha
  generalize w12.heap.size = qh at *
  refine (eqScheme_same rh rf rk how wo ryo hcw wco ah a rz ch c _ H.out.ins (W0.out.step E.out) HSM.out.1.lens).mono ?_
  rintro e w13 ⟨rfl, hb⟩
  replace E := Lib.hid (chain E.out hb)
  replace G := Lib.hid (G.out.step hb)
  replace GB := Lib.hid (GB.out.step hb)
  replace H := Lib.hid (H.out.step hb)
  clear hb
  clear H HB
  have GBc0 := (GB.out).s0
  have GBc1 := (GB.out).s1
  have GBc2 := (GB.out).s2
  have GBc3 := (GB.out).s3
  have GBc4 := (GB.out).s4
  have GBlt := (GB.out).lt
  go_wp2_with fail
  clear GBc0 GBc1 GBc2 GBc3 GBc4 GBlt
  refine (heldSchO_any rh rf rk gow gcw ryo ag cg rz 1 _ G.out.sm HSM.out.1 (by omega) (by omega)).mono ?_
  rintro e w14 ⟨rfl, hb⟩
  replace E := Lib.hid (chain E.out hb)
  replace G := Lib.hid (G.out.step hb)
  replace GB := Lib.hid (GB.out.step hb)
  clear hb
  go_wp2_with fail
  go_ret
  exact ⟨rfl, D.out.trans (E.out.mono D.out.size)⟩
end Dus
end Go.Proofs.Ytnebkhelobpkpaa

namespace Go.Proofs.Ytnebkhelobpkpaa
open Go.ChangeShapes Go.WideShapes Go.ChangeAt Go.RowKit Go.Deep
set_option linter.unusedVariables false
namespace Dus

theorem law (h0 f0 l0 : Int) (ao0 : Option Addr) (yo0 : List Int) (co0 : Nat) (a0 : Option Addr) (z0 : List (List Int)) (c0 : Nat) (w : World) (hr0 : InS w ao0 yo0 a0 z0) (hl0 : LenS yo0 z0) (wfh0 : (Lit.int .i64 h0).wf = true) (wff0 : (Lit.int .i64 f0).wf = true) (wfl0 : (Lit.int .i64 l0).wf = true) :
    Calls Try.prog 6 #[.agg #[.int .i64 h0, .slice ao0 yo0.length co0, .int .i64 f0, .int .i64 l0, .slice a0 z0.length c0]] w fun e w' => e = .returned (.bool true) ∧ Below w.heap.size w w' :=
  law_of h0 f0 l0 ao0 yo0 co0 a0 z0 c0 (dsSel h0 f0 l0 yo0 z0 0 0 0 h0) (dsSel h0 f0 l0 yo0 z0 0 0 0 f0) (dsSel h0 f0 l0 yo0 z0 0 0 0 ((dsC f0 l0.toNat z0).length : Int)) (dsSel h0 f0 l0 yo0 z0 [] [] [] yo0) (dsSel h0 f0 l0 yo0 z0 [] [] [] (dsD f0 l0.toNat z0)) (dsSel h0 f0 l0 yo0 z0 1 4 3 0) w hr0 hl0 wfh0 wff0 wfl0  (fun _ _ _ _ W r0 s0 => specDu_any h0 f0 l0 _ yo0 _ _ z0 _ W r0 s0.lens) (fun _ _ _ _ W r0 s0 => implDu_any h0 f0 l0 _ yo0 _ _ z0 _ W r0 s0.lens) (ds_small _ _ _ _ _)

theorem own : ownKnob Try.prog.godebug = none := by kernel_rfl
theorem laidOut : laidOutB Try.prog = true := by kernel_rfl

set_option maxRecDepth 100000 in
theorem lifted (os : Os) (started : os.Started) (H : Type) (enc : TypeId × Value → H) :
    ReturnsInHanded {} Try.checked os 6 .any (Rows.fnExactDualSchemeSpec.pre6 enc Try.prog Try.f6 Rows.fnExactDualSchemeRow.domain false) (Rows.fnExactDualSchemeSpec.post enc Try.prog Try.f6 false true false false) := by
  refine returnsInHanded_of_change (C := Try.checked) own started (by kernel_rfl) Try.func6
    (ChangeSpec.witness6 (enc := enc) (C := Try.checked) false ⟨#[], #[.agg #[.int .i64 0, .slice none 0 0, .int .i64 0, .int .i64 0, .slice none 0 0]], []⟩ 8 (by kernel_rfl) (by kernel_rfl) (by kernel_rfl) (by kernel_rfl)) ?_
  intro W base args ds gs before hval0 hW hcnd _
  have hval : ∀ (j : Nat) t v, Try.f6.params[j]? = some t → args[j]? = some v → Value.okWide Try.prog W .any base t v := hval0
  have hW' := hW
  obtain ⟨p, q, hA0, hV, rfl, hfz, hnd⟩ := hW
  have hA : DataW.TrodAll enc Try.prog W 0 (fun _ => true) true Try.f6.params.toList args.toList ds p := hA0
  rw [Try.params6] at hA hval
  obtain ⟨v0, vs0, d0, ds0, p0, q0, hargs, rfl, rfl, h0, r0⟩ := trodAll_cons hA
  obtain ⟨rfl, rfl, rfl⟩ := trodAll_nil r0
  obtain rfl : args = #[v0] := by cases args; simp_all
  obtain ⟨rfl, rfl⟩ := trodVars_none hV
  have k0 := h0
  have lt0 : ∀ x ∈ p0, x.block < W.heap.size := by obtain ⟨m, hm⟩ := k0; exact DataW.trod_lt m _ _ _ hm
  obtain ⟨hh0, ff0, kk0, ao0, yo0, co0, a0, z0, c0, rfl, rr0, ll0, wf0, wg0, wh0⟩ := open_sch (hval 0 40 v0 rfl rfl) h0
  clear hA0 hval0
  refine (law hh0 ff0 kk0 ao0 yo0 co0 a0 z0 c0 W rr0 ll0 wf0 wg0 wh0).mono fun e W' ⟨he, bel⟩ => ?_
  subst he
  exact ⟨_, rfl, _, _, _, [], _, [], hW', trodAll_mk1 (shut_bool Try.underlying4 _), (trodAll_cons_mk (Below.trod laidOut (by kernel_rfl) (of_decide_eq_true (by kernel_rfl)) k0 bel lt0) trodAll_mk0), rfl, bel.frame _, fun h => by cases h⟩

theorem over : Rows.fnExactDualSchemeRow.holds Try.pinned (OpenSpec.ofChange Rows.fnExactDualSchemeSpec) :=
  OpenClaim.holds_of_wide 6 Try.f6 rfl rfl rfl rfl rfl rfl rfl ⟨rfl, rfl, rfl, rfl, rfl⟩ rfl rfl rfl rfl rfl (by kernel_rfl) Try.func6 (by kernel_rfl)
    (of_decide_eq_true (by kernel_rfl)) (by unfold Func.isWrapper; first | (rw [if_pos (by decide +kernel)]; kernel_rfl) | (rw [if_neg (by decide +kernel)]; exact ⟨rfl, rfl⟩))
    (fun os started H enc _ => lifted os started H enc)

theorem proved : Rows.FnExactDualSchemeSaid := over

end Dus
end Go.Proofs.Ytnebkhelobpkpaa

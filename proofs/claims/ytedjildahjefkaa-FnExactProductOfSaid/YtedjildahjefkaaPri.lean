/- ProductOf of the program. -/
import Derived.Test.YtedjildahjefkaaPr0
namespace Go.Proofs.Ytedjildahjefkaa
open Go.RowKit Go.Deep
set_option linter.unusedVariables false

theorem OwnG.grid2 {W : World} {base n c : Nat} {p : Int} {a : Option Addr} {us : List Value} {zss : List (List Int)} (h : OwnG W base p (.slice a n c) us zss) : GridR W a p zss := by
  obtain ⟨a', c', e, hr⟩ := h.grid
  cases e
  exact hr
theorem gtimesI_any (p c d : Int) (cn on : Nat) (a b : Option Addr) (ca cb : Nat) (z y : List (List Int)) (w : World) (hc : c = (cn : Int)) (hd : d = (on : Int)) (hp : 2 ≤ p) (hp1 : p ≤ 31) (hr : GridR w a p z) (hr' : GridR w b p y) (hz1 : z.length ≤ 1000) (hcn : cn ≤ 1000) (hon : on ≤ 1000)
    (hrow : ∀ r, r < z.length → (nthL z r).length = cn ∧ Elems p (nthL z r)) (hy : y.length = cn) (hrow' : ∀ r, r < y.length → (nthL y r).length = on ∧ Elems p (nthL y r)) :
    Calls Try.prog 50 #[.agg #[.slice a z.length ca, .int .i64 p, .int .i64 c], .agg #[.slice b y.length cb, .int .i64 p, .int .i64 d]] w fun e w' => (∃ v us, e = .returned (.agg #[v, .int .i64 p, .int .i64 d]) ∧ OwnG w' w.heap.size p v us (prod z y p cn on)) ∧ Below w.heap.size w w' := by
  subst hc; subst hd
  exact gtimes_any p cn on a b ca cb z y w hp hp1 hr hr' hz1 hcn hon hrow hy hrow'

set_option maxRecDepth 100000 in
set_option maxHeartbeats 16000000 in
theorem implPr_any (p c : Int) (a : Option Addr) (z : List (List Int)) (ca : Nat) (q d : Int) (b : Option Addr) (y : List (List Int)) (cb : Nat) (w : World) (hr : Rows2 w a z) (hl : Lens z) (hr' : Rows2 w b y) (hl' : Lens y) :
    Calls Try.prog 21 #[.agg #[.int .i64 p, .int .i64 c, .slice a z.length ca], .agg #[.int .i64 q, .int .i64 d, .slice b y.length cb]] w (GivesMY w (prSel p c z q d y 0 0 p) (prSel p c z q d y 0 0 d) (prSel p c z q d y [] [] (prod z y p c.toNat d.toNat)) (prSel p c z q d y 1 2 0)) := by
  have HR := Lib.hid hr
  have HL := Lib.hid hl
  have HR' := Lib.hid hr'
  have HL' := Lib.hid hl'
  clear hr hl hr' hl'
  go_enter Try.func21, Try.ntmps21
  go_wp2_with fail
  have hb3 := (((Below.refl w.heap.size w).alloc (Nat.le_refl _) (.cells #[.int .i64 p, .int .i64 c, .slice a z.length ca] 30)).alloc (by simp) (.cells #[.int .i64 q, .int .i64 d, .slice b y.length cb] 30)).alloc (by simp; omega) (.cells #[.int .i64 0, .int .i64 0, .slice none 0 0] 30)
  have hs3 : (((w.alloc (.cells #[.int .i64 p, .int .i64 c, .slice a z.length ca] 30)).alloc (.cells #[.int .i64 q, .int .i64 d, .slice b y.length cb] 30)).alloc (.cells #[.int .i64 0, .int .i64 0, .slice none 0 0] 30)).heap.size = w.heap.size + 3 := by simp
  have hx : Boxes (((w.alloc (.cells #[.int .i64 p, .int .i64 c, .slice a z.length ca] 30)).alloc (.cells #[.int .i64 q, .int .i64 d, .slice b y.length cb] 30)).alloc (.cells #[.int .i64 0, .int .i64 0, .slice none 0 0] 30)) w.heap.size 30 #[.int .i64 p, .int .i64 c, .slice a z.length ca] := (Boxes.step (World.alloc_heap_new w _) ((Below.refl _ _).alloc (Nat.le_refl _) (.cells #[.int .i64 q, .int .i64 d, .slice b y.length cb] 30))).step ((Below.refl _ _).alloc (Nat.le_refl _) (.cells #[.int .i64 0, .int .i64 0, .slice none 0 0] 30))
  have hy : Boxes (((w.alloc (.cells #[.int .i64 p, .int .i64 c, .slice a z.length ca] 30)).alloc (.cells #[.int .i64 q, .int .i64 d, .slice b y.length cb] 30)).alloc (.cells #[.int .i64 0, .int .i64 0, .slice none 0 0] 30)) (w.heap.size + 1) 30 #[.int .i64 q, .int .i64 d, .slice b y.length cb] := by
    have h : Boxes ((w.alloc (.cells #[.int .i64 p, .int .i64 c, .slice a z.length ca] 30)).alloc (.cells #[.int .i64 q, .int .i64 d, .slice b y.length cb] 30)) (w.alloc (.cells #[.int .i64 p, .int .i64 c, .slice a z.length ca] 30)).heap.size 30 #[.int .i64 q, .int .i64 d, .slice b y.length cb] := World.alloc_heap_new _ _
    simp only [World.size_alloc] at h
    exact h.step ((Below.refl _ _).alloc (Nat.le_refl _) (.cells #[.int .i64 0, .int .i64 0, .slice none 0 0] 30))
  have hz : Boxes (((w.alloc (.cells #[.int .i64 p, .int .i64 c, .slice a z.length ca] 30)).alloc (.cells #[.int .i64 q, .int .i64 d, .slice b y.length cb] 30)).alloc (.cells #[.int .i64 0, .int .i64 0, .slice none 0 0] 30)) (w.heap.size + 2) 30 #[.int .i64 0, .int .i64 0, .slice none 0 0] := by
    have h : Boxes (((w.alloc (.cells #[.int .i64 p, .int .i64 c, .slice a z.length ca] 30)).alloc (.cells #[.int .i64 q, .int .i64 d, .slice b y.length cb] 30)).alloc (.cells #[.int .i64 0, .int .i64 0, .slice none 0 0] 30)) ((w.alloc (.cells #[.int .i64 p, .int .i64 c, .slice a z.length ca] 30)).alloc (.cells #[.int .i64 q, .int .i64 d, .slice b y.length cb] 30)).heap.size 30 #[.int .i64 0, .int .i64 0, .slice none 0 0] := World.alloc_heap_new _ _
    simp only [World.size_alloc] at h
    exact h
  have hr3 := HR.out.below hb3 (Nat.le_refl _)
  refine (implVm_any p c a z ca _ hr3 HL.out).mono ?_
  generalize ((w.alloc (.cells #[.int .i64 p, .int .i64 c, .slice a z.length ca] 30)).alloc (.cells #[.int .i64 q, .int .i64 d, .slice b y.length cb] 30)).alloc (.cells #[.int .i64 0, .int .i64 0, .slice none 0 0] 30) = w3 at *
  rintro e w4 ⟨rfl, hb4⟩
  have HX := Lib.hid (hx.step hb4)
  have HY := Lib.hid (hy.step hb4)
  have HZ := Lib.hid (hz.step hb4)
  have HB := Lib.hid (hb3.trans (hb4.mono (by omega)))
  have hs4 : w.heap.size + 3 ≤ w4.heap.size := by have := hb4.size; omega
  clear hb3 hb4 hx hy hz hr3 hs3
  have r0 := HZ.out.m0
  have r1 := HZ.out.m1
  have r2 := HZ.out.m2
  have f0 := HZ.out.frozen 0
  have f1 := HZ.out.frozen 1
  have f2 := HZ.out.frozen 2
  have x0 := HX.out.m0
  have x1 := HX.out.m1
  have x2 := HX.out.m2
  have y0 := HY.out.m0
  have y1 := HY.out.m1
  have y2 := HY.out.m2
  have lz := HZ.out.lt
  have lx := HX.out.lt
  have ly := HY.out.lt
  by_cases hm : MatOk p c z
  case neg =>
    have HT := Lib.hid (tell_false hm)
    have HV := Lib.hid (fun (α : Type) (b r o : α) => pr_bad (q := q) (d := d) (y := y) (fun k => hm k.1) b r o)
    clear hm
    rw [HT.out]
    go_wp2_with fail
    refine bodyPost_ret (v := .tuple #[.agg #[.int .i64 0, .int .i64 0, .slice none 0 0], .int .i64 1]) (by simp [results, Try.results21, go_sem, r0, r1, r2]) rfl ⟨⟨.slice none 0 0, [], by rw [HV.out, HV.out, HV.out], by rw [HV.out]; exact Own.nil3 _ _⟩, (((HB.out.setCell (p := ⟨w.heap.size + 2, 0, none⟩) (by show w.heap.size ≤ w.heap.size + 2; omega) _).setCell (p := ⟨w.heap.size + 2, 1, none⟩) (by show w.heap.size ≤ w.heap.size + 2; omega) _).setCell (p := ⟨w.heap.size + 2, 2, none⟩) (by show w.heap.size ≤ w.heap.size + 2; omega) _)⟩
  have HT := Lib.hid (tell_true hm)
  have HM := Lib.hid hm
  clear hm
  rw [HT.out]
  go_wp2_with fail
  refine (implVm_any q d b y cb _ (HR'.out.below HB.out (Nat.le_refl _)) HL'.out).mono ?_
  clear r0 r1 r2 f0 f1 f2 x0 x1 x2 y0 y1 y2 lz lx ly
  rintro e w5 ⟨rfl, hb5⟩
  replace HX := Lib.hid (HX.out.step hb5)
  replace HY := Lib.hid (HY.out.step hb5)
  replace HZ := Lib.hid (HZ.out.step hb5)
  replace HB := Lib.hid (HB.out.trans (hb5.mono HB.out.size))
  have hs5 : w.heap.size + 3 ≤ w5.heap.size := by have := hb5.size; omega
  clear hb5 hs4
  have r0 := HZ.out.m0
  have r1 := HZ.out.m1
  have r2 := HZ.out.m2
  have f0 := HZ.out.frozen 0
  have f1 := HZ.out.frozen 1
  have f2 := HZ.out.frozen 2
  have x0 := HX.out.m0
  have x1 := HX.out.m1
  have x2 := HX.out.m2
  have y0 := HY.out.m0
  have y1 := HY.out.m1
  have y2 := HY.out.m2
  have lz := HZ.out.lt
  have lx := HX.out.lt
  have ly := HY.out.lt
  by_cases hn : MatOk q d y
  case neg =>
    have HT := Lib.hid (tell_false hn)
    have HV := Lib.hid (fun (α : Type) (b r o : α) => pr_bad (p := p) (c := c) (z := z) (fun k => hn k.2) b r o)
    clear hn
    rw [HT.out]
    go_wp2_with fail
    refine bodyPost_ret (v := .tuple #[.agg #[.int .i64 0, .int .i64 0, .slice none 0 0], .int .i64 1]) (by simp [results, Try.results21, go_sem, r0, r1, r2]) rfl ⟨⟨.slice none 0 0, [], by rw [HV.out, HV.out, HV.out], by rw [HV.out]; exact Own.nil3 _ _⟩, (((HB.out.setCell (p := ⟨w.heap.size + 2, 0, none⟩) (by show w.heap.size ≤ w.heap.size + 2; omega) _).setCell (p := ⟨w.heap.size + 2, 1, none⟩) (by show w.heap.size ≤ w.heap.size + 2; omega) _).setCell (p := ⟨w.heap.size + 2, 2, none⟩) (by show w.heap.size ≤ w.heap.size + 2; omega) _)⟩
  have HU := Lib.hid (tell_true hn)
  have HN := Lib.hid hn
  clear hn
  rw [HU.out]
  have hyl : (y.length : Int) ≤ 20 := by have := HN.out.2.2.1; omega
  by_cases he : p = q ∧ c = (y.length : Int)
  case neg =>
    have HV := Lib.hid (fun (α : Type) (b r o : α) => pr_rng ⟨HM.out, HN.out⟩ he b r o)
    by_cases hpq : p = q
    · have hcd : (c != (y.length : Int)) = true := by simp; exact fun e => he ⟨hpq, e⟩
      subst hpq
      clear he
      go_wp2_with fail
      refine bodyPost_ret (v := .tuple #[.agg #[.int .i64 0, .int .i64 0, .slice none 0 0], .int .i64 2]) (by simp [results, Try.results21, go_sem, r0, r1, r2]) rfl ⟨⟨.slice none 0 0, [], by rw [HV.out, HV.out, HV.out], by rw [HV.out]; exact Own.nil3 _ _⟩, (((HB.out.setCell (p := ⟨w.heap.size + 2, 0, none⟩) (by show w.heap.size ≤ w.heap.size + 2; omega) _).setCell (p := ⟨w.heap.size + 2, 1, none⟩) (by show w.heap.size ≤ w.heap.size + 2; omega) _).setCell (p := ⟨w.heap.size + 2, 2, none⟩) (by show w.heap.size ≤ w.heap.size + 2; omega) _)⟩
    · have hpq' : (p != q) = true := by simp; exact hpq
      clear he
      go_wp2_with fail
      refine bodyPost_ret (v := .tuple #[.agg #[.int .i64 0, .int .i64 0, .slice none 0 0], .int .i64 2]) (by simp [results, Try.results21, go_sem, r0, r1, r2]) rfl ⟨⟨.slice none 0 0, [], by rw [HV.out, HV.out, HV.out], by rw [HV.out]; exact Own.nil3 _ _⟩, (((HB.out.setCell (p := ⟨w.heap.size + 2, 0, none⟩) (by show w.heap.size ≤ w.heap.size + 2; omega) _).setCell (p := ⟨w.heap.size + 2, 1, none⟩) (by show w.heap.size ≤ w.heap.size + 2; omega) _).setCell (p := ⟨w.heap.size + 2, 2, none⟩) (by show w.heap.size ≤ w.heap.size + 2; omega) _)⟩
  have HV := Lib.hid (fun (α : Type) (b r o : α) => pr_ok ⟨HM.out, HN.out⟩ he b r o)
  obtain ⟨rfl, hcy⟩ := he
  have hce : (c != (y.length : Int)) = false := by simp [hcy]
  have HCY := Lib.hid (show y.length = c.toNat by omega)
  have HDN := Lib.hid (show c = (c.toNat : Int) ∧ d = (d.toNat : Int) ∧ z.length ≤ 20 ∧ c.toNat ≤ 12 ∧ d.toNat ≤ 12 from ⟨by have := HM.out.2.1; omega, by have := HN.out.2.1; omega, HM.out.2.2.1, by have := HM.out.2.1; omega, by have := HN.out.2.1; omega⟩)
  have hp2 : 2 ≤ p := HM.out.1.1
  have hp31 : p ≤ 31 := HM.out.1.2.1
  have HRZ := Lib.hid (show ∀ r, r < z.length → (nthL z r).length = c.toNat ∧ Elems p (nthL z r) from fun r hr => ⟨by have := (HM.out.2.2.2 r hr).1; omega, (HM.out.2.2.2 r hr).2⟩)
  have HRY := Lib.hid (show ∀ r, r < y.length → (nthL y r).length = d.toNat ∧ Elems p (nthL y r) from fun r hr => ⟨by have := (HN.out.2.2.2 r hr).1; omega, (HN.out.2.2.2 r hr).2⟩)
  clear hcy
  have HSZ := Lib.hid (matr_small2 HM.out)
  have HSY := Lib.hid (matr_small2 HN.out)
  have HRA := Lib.hid (HR.out.below HB.out (Nat.le_refl _))
  have HRB := Lib.hid (HR'.out.below HB.out (Nat.le_refl _))
  go_wp2_with fail
  clear r0 r1 r2 f0 f1 f2 lz hce hyl hs5 hp2 hp31 HL HL' HT HU
  have HSW := Lib.hid (show w.heap.size + 2 ≤ w5.heap.size from Nat.le_of_lt HZ.out.lt)
  have MK := Lib.hid (show ∀ W, Below (w.heap.size + 2) w5 W → Below (w.heap.size + 2) w5 W ∧ W.cell? ⟨w.heap.size, 0, none⟩ = some (.int .i64 p) ∧ W.cell? ⟨w.heap.size, 1, none⟩ = some (.int .i64 c) ∧ W.cell? ⟨w.heap.size, 2, none⟩ = some (.slice a z.length ca) ∧ W.cell? ⟨w.heap.size + 1, 0, none⟩ = some (.int .i64 p) ∧ W.cell? ⟨w.heap.size + 1, 1, none⟩ = some (.int .i64 d) ∧ W.cell? ⟨w.heap.size + 1, 2, none⟩ = some (.slice b y.length cb) from fun W hb => ⟨hb, (hb.cell (p := ⟨w.heap.size, 0, none⟩) (show w.heap.size < w.heap.size + 2 by omega)).trans x0, (hb.cell (p := ⟨w.heap.size, 1, none⟩) (show w.heap.size < w.heap.size + 2 by omega)).trans x1, (hb.cell (p := ⟨w.heap.size, 2, none⟩) (show w.heap.size < w.heap.size + 2 by omega)).trans x2, (hb.cell (p := ⟨w.heap.size + 1, 0, none⟩) (show w.heap.size + 1 < w.heap.size + 2 by omega)).trans y0, (hb.cell (p := ⟨w.heap.size + 1, 1, none⟩) (show w.heap.size + 1 < w.heap.size + 2 by omega)).trans y1, (hb.cell (p := ⟨w.heap.size + 1, 2, none⟩) (show w.heap.size + 1 < w.heap.size + 2 by omega)).trans y2⟩)
  go_region_held3 (fun w' => Below (w.heap.size + 2) w5 w' ∧ w'.cell? ⟨w.heap.size, 0, none⟩ = some (.int .i64 p) ∧ w'.cell? ⟨w.heap.size, 1, none⟩ = some (.int .i64 c) ∧ w'.cell? ⟨w.heap.size, 2, none⟩ = some (.slice a z.length ca) ∧ w'.cell? ⟨w.heap.size + 1, 0, none⟩ = some (.int .i64 p) ∧ w'.cell? ⟨w.heap.size + 1, 1, none⟩ = some (.int .i64 d) ∧ w'.cell? ⟨w.heap.size + 1, 2, none⟩ = some (.slice b y.length cb)) (first | exact MK.out _ (Below.refl _ _).drew | exact MK.out _ EW.out | exact MK.out _ ((((‹Below (w.heap.size + 2) w5 _ ∧ _›).1.setCell (Nat.le_refl _) _).setCell (Nat.le_refl _) _).setCell (Nat.le_refl _) _) | fail) (first | (go_at_call_of 43 ca; have KK := (‹Below (w.heap.size + 2) w5 _ ∧ _›).1; refine (gridOf_any p c a z ca _ (HR.out.below (HB.out.trans (KK.mono (Nat.le_add_right _ 2))) (Nat.le_refl _)) HSZ.out).mono ?_; rintro e wz ⟨⟨vz, usz, rfl, hogz⟩, hb⟩; obtain ⟨va, vc, rfl⟩ := hogz.form; have HGZ := Lib.hid (show GridR wz va p z from hogz.grid2); have HBZ := Lib.hid (show Below w5.heap.size w5 wz by first | exact HBY.out.trans (hb.mono HBY.out.size) | exact hb | exact (drew_step w5).trans hb); have EW := Lib.hid (KK.trans (hb.mono (Nat.le_trans HSW.out KK.size))); clear KK) | (go_at_call_of 43 cb; have KK := (‹Below (w.heap.size + 2) w5 _ ∧ _›).1; refine (gridOf_any p d b y cb _ (HR'.out.below (HB.out.trans (KK.mono (Nat.le_add_right _ 2))) (Nat.le_refl _)) HSY.out).mono ?_; rintro e wy ⟨⟨vy, usy, rfl, hogy⟩, hb⟩; obtain ⟨vb, vd, rfl⟩ := hogy.form; have HGY := Lib.hid (show GridR wy vb p y from hogy.grid2); have HBY := Lib.hid (show Below w5.heap.size w5 wy by first | exact HBZ.out.trans (hb.mono HBZ.out.size) | exact hb | exact (drew_step w5).trans hb); have EW := Lib.hid (KK.trans (hb.mono (Nat.le_trans HSW.out KK.size))); clear KK) | (go_at_call 50; have KK := (‹Below (w.heap.size + 2) w5 _ ∧ _›).1; refine (gtimesI_any p c d c.toNat d.toNat va vb vc vd z y _ HDN.out.1 HDN.out.2.1 HM.out.1.1 HM.out.1.2.1 (by first | exact HGZ.out.step hb | exact HGZ.out) (by first | exact HGY.out.step hb | exact HGY.out) (by have := HDN.out; omega) (by have := HDN.out; omega) (by have := HDN.out; omega) HRZ.out HCY.out HRY.out).mono ?_; rintro e wt ⟨⟨vt, ust, rfl, hot⟩, hbt⟩; obtain ⟨ta, tc, rfl⟩ := hot.form; have HGT := Lib.hid (show GridR wt ta p (prod z y p c.toNat d.toNat) from hot.grid2); have HBT := Lib.hid (show Below w5.heap.size w5 wt by first | exact HBY.out.trans (hbt.mono HBY.out.size) | exact HBZ.out.trans (hbt.mono HBZ.out.size)); have EW := Lib.hid (KK.trans (hbt.mono (Nat.le_trans HSW.out KK.size))); clear KK) | (go_at_call 51; have KK := (‹Below (w.heap.size + 2) w5 _ ∧ _›).1; refine (matrix_any p d ta (prod z y p c.toNat d.toNat) tc wt HGT.out (prod_small HM.out HN.out _ _)).mono ?_; rintro e wm ⟨⟨vm, usm, rfl, hom⟩, hbm⟩; obtain ⟨ma, mc, rfl⟩ := hom.form; have HOM := Lib.hid hom; have HBM := Lib.hid (HBT.out.trans (hbm.mono HBT.out.size)); have hsm : w5.heap.size ≤ wt.heap.size := HBT.out.size; have m0 := (HZ.out.step HBM.out).m0; have m1 := (HZ.out.step HBM.out).m1; have m2 := (HZ.out.step HBM.out).m2; have mf0 := (HZ.out.step HBM.out).frozen 0; have mf1 := (HZ.out.step HBM.out).frozen 1; have mf2 := (HZ.out.step HBM.out).frozen 2; have ml := (HZ.out.step HBM.out).lt; have EW := Lib.hid (KK.trans (hbm.mono (Nat.le_trans HSW.out KK.size))); clear KK) | fail)
  all_goals (
    have hs5 := HZ.out.lt
    clear x0 x1 x2 y0 y1 y2 lx ly
    go_wp2_with fail
    refine bodyPost_ret (v := .tuple #[.agg #[.int .i64 p, .int .i64 d, .slice ma (prod z y p c.toNat d.toNat).length mc], .int .i64 0]) (by simp [results, Try.results21, go_sem, m0, m1, m2]) rfl ⟨⟨_, usm, by rw [HV.out, HV.out, HV.out], ?_⟩, ?_⟩
    · rw [HV.out]
      exact (((HOM.out.setCell3 (p := ⟨w.heap.size + 2, 0, none⟩) (by show w.heap.size + 2 < wt.heap.size; omega) _).setCell3 (p := ⟨w.heap.size + 2, 1, none⟩) (by show w.heap.size + 2 < wt.heap.size; omega) _).setCell3 (p := ⟨w.heap.size + 2, 2, none⟩) (by show w.heap.size + 2 < wt.heap.size; omega) _).mono3 (by omega)
    · have hb := HB.out.trans (HBM.out.mono HB.out.size)
      exact (((hb.setCell (p := ⟨w.heap.size + 2, 0, none⟩) (by show w.heap.size ≤ w.heap.size + 2; omega) _).setCell (p := ⟨w.heap.size + 2, 1, none⟩) (by show w.heap.size ≤ w.heap.size + 2; omega) _).setCell (p := ⟨w.heap.size + 2, 2, none⟩) (by show w.heap.size ≤ w.heap.size + 2; omega) _))
end Go.Proofs.Ytedjildahjefkaa

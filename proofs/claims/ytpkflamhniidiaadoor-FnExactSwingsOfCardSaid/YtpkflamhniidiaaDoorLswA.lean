/- 'laws.FnExactSwingsOf': for every family, valid or not, the program's function gives what the model gives, writes into nothing that it was given, and its answer owns its memory. No condition. -/
import Derived.Test.YtpkflamhniidiaaDoorSwgI
import Derived.Test.YtpkflamhniidiaaDoorMark2
import Derived.Deep.RegionHeld3
namespace Go.Proofs.YtpkflamhniidiaaDoor
open Go.ChangeShapes Go.WideShapes Go.ChangeAt Go.RowKit Go.Deep
set_option linter.unusedVariables false
namespace LSw

/-- What is carried while the answer is not yet marked. -/
structure Carry (w4 : World) (g bg : Nat) (vg : Value) (zss : List (List Int)) (R : List Int) (w : World) : Prop where
  d : Below w4.heap.size w4 w
  x : Own2 w g zss
  r : OwnI w bg vg R
theorem Carry.step {w4 : World} {g bg : Nat} {vg : Value} {zss : List (List Int)} {R : List Int} {w w' : World} (hb : Below w.heap.size w w') (h : Carry w4 g bg vg zss R w) : Carry w4 g bg vg zss R w' := ⟨chain h.d hb, h.x.step hb, h.r.step hb⟩
theorem keep4 {w w' : World} {p1 p2 p3 p4 : Addr} {v1 v2 v3 v4 : Value} {C : World → Prop} (hb : Below w.heap.size w w') (hC : C w → C w') (h : w.cell? p1 = some v1 ∧ w.cell? p2 = some v2 ∧ w.cell? p3 = some v3 ∧ w.cell? p4 = some v4 ∧ C w) :
    w'.cell? p1 = some v1 ∧ w'.cell? p2 = some v2 ∧ w'.cell? p3 = some v3 ∧ w'.cell? p4 = some v4 ∧ C w' :=
  ⟨cell_step hb h.1, cell_step hb h.2.1, cell_step hb h.2.2.1, cell_step hb h.2.2.2.1, hC h.2.2.2.2⟩

set_option maxRecDepth 100000 in
set_option maxHeartbeats 1000000 in
theorem law (h : Int) (a : Option Addr) (zss : List (List Int)) (c : Nat) (w : World) (hr : Rows2 w a zss) (hl : Lens zss) (hwf : (Lit.int .i64 h).wf = true) :
    Calls Tryd.prog 17 #[.agg #[.int .i64 h, .slice a zss.length c]] w fun e w' => e = .returned (.bool true) ∧ Below w.heap.size w w' := by
  have HL := Lib.hid hl
  have hRlen : (swOf h zss).length ≤ 1048576 := swOf_len h zss
  go_enter Tryd.func17, Tryd.ntmps17
  go_wp2_with fail
  have B := (Below.refl w.heap.size w).alloc (Nat.le_refl _) (.cells #[.int .i64 h, .slice a zss.length c] 24)
  have rw1 := hr.step B
  have p0 : (w.alloc (.cells #[.int .i64 h, .slice a zss.length c] 24)).cell? ⟨w.heap.size, 0, none⟩ = some (.int .i64 h) := by simp
  have p1 : (w.alloc (.cells #[.int .i64 h, .slice a zss.length c] 24)).cell? ⟨w.heap.size, 1, none⟩ = some (.slice a zss.length c) := by simp
  clear hr hl hwf
  refine (szFamily_any h a zss c 1048576 _ rw1 (by omega) (by omega) HL.out.1 HL.out.2).mono ?_
  generalize w.alloc (.cells #[.int .i64 h, .slice a zss.length c] 24) = w1 at *
  rintro e w2 ⟨⟨u, hu, rfl⟩, hb⟩
  replace B := chain B hb
  replace rw1 := rw1.step hb
  replace p0 := cell_step hb p0
  replace p1 := cell_step hb p1
  clear hb
  rcases hu with rfl | ⟨hu0, hu1, hsm⟩
  · go_wp2_with fail
    go_ret
    exact ⟨rfl, B⟩
  have HS := Lib.hid hsm
  have hnz : zss.length ≤ 1048576 := hsm.1
  clear hsm
  have HB := Lib.hid B
  have HR := Lib.hid rw1
  clear B rw1
  go_wp2_with fail
  refine (toFamily_any h a zss c w2 HR.out HS.out).mono ?_
  rintro e w3 ⟨rfl, -, ho, hb⟩
  replace HB := Lib.hid (chain HB.out hb)
  replace HR := Lib.hid (HR.out.step hb)
  have HO := Lib.hid ho
  replace p0 := cell_step hb p0
  replace p1 := cell_step hb p1
  clear hb ho
  go_wp2_with fail
  refine (specSwg_any h _ zss _ w3 HO.out.rows HS.out.lens).mono ?_
  rintro e w4 ⟨⟨v0, rfl, hv⟩, hb⟩
  obtain ⟨a0, c0, rfl, hi, _⟩ := hv.ints
  replace HB := Lib.hid (chain HB.out hb)
  replace HR := Lib.hid (HR.out.step hb)
  have HW := Lib.hid hi
  replace p0 := cell_step hb p0
  replace p1 := cell_step hb p1
  clear hb hv hi HO
  -- THE WORLD w4: what is there stays: the argument and the model's answer
  have P0 := Lib.hid p0
  have P1 := Lib.hid p1
  go_wp2_with fail
  refine (toFamily_any h a zss c w4 HR.out HS.out).mono ?_
  rintro e w5 ⟨rfl, hsz, hx, hb⟩
  obtain ⟨g, hg⟩ : ∃ g, w4.heap.size + 3 = g := ⟨_, rfl⟩
  rw [hg] at hx ⊢
  have HG := Lib.hid (show w4.heap.size ≤ g ∧ w5.heap.size = g + 1 + zss.length from ⟨by omega, by omega⟩)
  have D := Lib.hid hb
  have HX := Lib.hid hx
  replace p0 := cell_step hb p0
  replace p1 := cell_step hb p1
  clear hb hx hsz hg
  have s1 : w.heap.size < w5.heap.size := World.block_lt_of_cell? _ _ p0
  go_wp2_with fail
  clear s1
  have hb := (Below.refl w5.heap.size w5).alloc (Nat.le_refl _) (.cells #[.int .i64 h, .slice (some ⟨g, 0, none⟩) zss.length zss.length] 27)
  have r0 : (w5.alloc (.cells #[.int .i64 h, .slice (some ⟨g, 0, none⟩) zss.length zss.length] 27)).cell? ⟨w5.heap.size, 0, none⟩ = some (.int .i64 h) := by simp
  have r1 : (w5.alloc (.cells #[.int .i64 h, .slice (some ⟨g, 0, none⟩) zss.length zss.length] 27)).cell? ⟨w5.heap.size, 1, none⟩ = some (.slice (some ⟨g, 0, none⟩) zss.length zss.length) := by simp
  have HZ6 := Lib.hid (show w5.heap.size ≤ (w5.alloc (.cells #[.int .i64 h, .slice (some ⟨g, 0, none⟩) zss.length zss.length] 27)).heap.size by simp)
  generalize w5.alloc (.cells #[.int .i64 h, .slice (some ⟨g, 0, none⟩) zss.length zss.length] 27) = w6 at *
  replace p0 := cell_step hb p0
  replace p1 := cell_step hb p1
  replace D := Lib.hid (chain D.out hb)
  replace HX := Lib.hid (HX.out.step hb)
  clear hb
  obtain ⟨px, hpx⟩ : ∃ px, w5.heap.size = px := ⟨_, rfl⟩
  rw [hpx] at HG HZ6
  simp only [hpx] at r0 r1 ⊢
  clear hpx
  refine (implSwg_any h _ zss _ w6 HX.out.rows HS.out).mono ?_
  rintro e w7 ⟨⟨vg, rfl, hv⟩, hb⟩
  obtain ⟨ag, cg, rfl, hi, _⟩ := hv.ints
  have HV := Lib.hid hv
  replace p0 := cell_step hb p0
  replace p1 := cell_step hb p1
  replace r0 := cell_step hb r0
  replace r1 := cell_step hb r1
  replace D := Lib.hid (chain D.out hb)
  replace HX := Lib.hid (HX.out.step hb)
  have HI := Lib.hid hi
  clear hb hv hi
  obtain ⟨bg, hbg⟩ : ∃ bg, w6.heap.size = bg := ⟨_, rfl⟩
  rw [hbg] at HV HZ6
  clear hbg
  go_wp2_with fail
  refine (eqInt64S_same ag a0 _ cg c0 w7 HI.out (HW.out.below D.out (Nat.le_refl _)) (by omega)).mono ?_
  rintro e w8 ⟨rfl, hq⟩
  have hb := quiet_below hq
  replace p0 := cell_step hb p0
  replace p1 := cell_step hb p1
  replace r0 := cell_step hb r0
  replace r1 := cell_step hb r1
  have K : Carry w4 g bg (.slice ag (swOf h zss).length cg) zss (swOf h zss) w8 := ⟨chain D.out hb, HX.out.step hb, HV.out.step hb⟩
  clear hb hq D HX HV HI
  go_wp2_with fail
  go_region_held3 (fun w' => w'.cell? ⟨w.heap.size, 0, none⟩ = some (.int .i64 h) ∧ w'.cell? ⟨w.heap.size, 1, none⟩ = some (.slice a zss.length c) ∧ w'.cell? ⟨px, 0, none⟩ = some (.int .i64 h) ∧ w'.cell? ⟨px, 1, none⟩ = some (.slice (some ⟨g, 0, none⟩) zss.length zss.length) ∧ Carry w4 g bg (.slice ag (swOf h zss).length cg) zss (swOf h zss) w') (first | exact ⟨cell_step (drew_step _) p0, cell_step (drew_step _) p1, cell_step (drew_step _) r0, cell_step (drew_step _) r1, K.step (drew_step _)⟩ | exact keep4 hb (fun k => k.step hb) (by assumption)) (first | (go_at_call 20; obtain ⟨_, _, _, _, KK⟩ := ‹_ ∧ _ ∧ _ ∧ _ ∧ Carry w4 g bg (.slice ag (swOf h zss).length cg) zss (swOf h zss) _›; refine (toFamily_any h a zss c _ (HR.out.below KK.d (Nat.le_refl _)) HS.out).mono ?_; rintro e wf ⟨rfl, -, hof, hb⟩; have hx1 := KK.x.step hb; clear KK) | (go_at_call 22; refine (eqFamily_same h _ _ zss _ _ _ hx1.rows hof.rows HS.out.lens.1 HS.out.lens.2).mono ?_; rintro e w9 ⟨rfl, hb⟩))
  clear p0 p1 r0 r1 K hb hx1 hof
  obtain ⟨-, -, r0, r1, K⟩ := ‹_ ∧ _ ∧ _ ∧ _ ∧ Carry w4 g bg (.slice ag (swOf h zss).length cg) zss (swOf h zss) _›
  go_wp2_with fail
  refine (markFamily_any h g _ zss 1 w9 K.x HS.out (by omega) (by omega)).mono ?_
  rintro e w10 ⟨⟨u2, hu2, rfl⟩, ht⟩
  have hg9 : g ≤ w9.heap.size := Nat.le_of_lt K.x.top.lt
  have D := Lib.hid (K.d.trans (ht.below HG.out.1 hg9))
  have HV := Lib.hid (ht.own K.r (by have := HG.out.2; have := HZ6.out; omega))
  clear K ht hg9 r0 r1
  obtain ⟨_, _, e1, hi, _⟩ := HV.out.ints
  cases e1
  go_wp2_with fail
  refine (eqInt64S_same ag a0 _ cg c0 w10 hi (HW.out.below D.out (Nat.le_refl _)) (by omega)).mono ?_
  rintro e w11 ⟨rfl, hq⟩
  have hb := quiet_below hq
  replace D := Lib.hid (chain D.out hb)
  replace HV := Lib.hid (HV.out.step hb)
  clear hb hq hi
  go_wp2_with fail
  refine (markInt64S_any _ (swOf h zss) bg 1 w11 HV.out (by omega) (by omega) (by omega)).mono ?_
  rintro e w12 ⟨rfl, hown, hsz, hgr⟩
  replace D := Lib.hid (D.out.grown hgr D.out.size (fun q hq => by have := (World.ownsRow.lt HV.out q hq).1; have := HZ6.out; have := HG.out; omega))
  replace HV := Lib.hid hown
  clear hown hsz hgr
  obtain ⟨_, _, e1, hi, _⟩ := HV.out.ints
  rw [marks_len] at e1
  cases e1
  have t1 : decide ((1 : Int) + ((swOf h zss).length : Int) < 0) = false := by simp; omega
  have t2 : ((1 : Int) + ((swOf h zss).length : Int) != (1 : Int) + ((swOf h zss).length : Int)) = false := by simp
  go_wp2_with fail
  refine (heldInt64S_any ag _ cg 1 w12 hi (by omega) (by omega) (by omega)).mono ?_
  rintro e w13 ⟨rfl, rfl⟩
  clear hi
  have p0 := (D.out.cell (p := ⟨w.heap.size, 0, none⟩) (World.block_lt_of_cell? _ _ P0.out)).trans P0.out
  have p1 := (D.out.cell (p := ⟨w.heap.size, 1, none⟩) (World.block_lt_of_cell? _ _ P1.out)).trans P1.out
  go_wp2_with fail
  refine (toFamily_any h a zss c w12 (HR.out.below D.out (Nat.le_refl _)) HS.out).mono ?_
  rintro e w14 ⟨rfl, -, ho, hb⟩
  replace D := Lib.hid (chain D.out hb)
  replace HV := Lib.hid (HV.out.step hb)
  have HO := Lib.hid ho
  clear hb ho p0 p1
  go_wp2_with fail
  refine (implSwg_any h _ zss _ w14 HO.out.rows HS.out).mono ?_
  rintro e w15 ⟨⟨vh, rfl, hv⟩, hb⟩
  obtain ⟨ah, ch, rfl, hi, _⟩ := hv.ints
  replace D := Lib.hid (chain D.out hb)
  replace HV := Lib.hid (HV.out.step hb)
  clear hb hv HO
  go_wp2_with fail
  refine (eqInt64S_same ah a0 _ ch c0 w15 hi (HW.out.below D.out (Nat.le_refl _)) (by omega)).mono ?_
  rintro e w16 ⟨rfl, hq⟩
  have hb := quiet_below hq
  replace D := Lib.hid (chain D.out hb)
  replace HV := Lib.hid (HV.out.step hb)
  clear hb hq hi
  obtain ⟨_, _, e1, hi, _⟩ := HV.out.ints
  rw [marks_len] at e1
  cases e1
  go_wp2_with fail
  refine (heldInt64S_any ag _ cg 1 w16 hi (by omega) (by omega) (by omega)).mono ?_
  rintro e w17 ⟨rfl, rfl⟩
  clear hi
  go_wp2_with fail
  go_ret
  exact ⟨rfl, HB.out.trans (D.out.mono HB.out.size)⟩
end LSw
end Go.Proofs.YtpkflamhniidiaaDoor

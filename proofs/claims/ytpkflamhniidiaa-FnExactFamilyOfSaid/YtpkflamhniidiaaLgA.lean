/- The walk of 'laws.FnExactFamilyOf', from what the two functions give. -/
import Derived.Test.YtpkflamhniidiaaLawA
namespace Go.Proofs.Ytpkflamhniidiaa
open Go.ChangeShapes Go.WideShapes Go.ChangeAt Go.RowKit Go.Deep
set_option linter.unusedVariables false
namespace LFamOf

set_option maxHeartbeats 2000000 in
set_option maxRecDepth 100000 in
theorem law_of (x0 : Int) (a1 : Option Addr) (z1 : List (List Int)) (c1 : Nat) (rh : Int) (rz : List (List Int)) (rc : Int) (w : World) (hr1 : Rows2 w a1 z1) (hl1 : Lens z1)
    (hS : ∀ (b1 : Option Addr) (d1 : Nat) (W : World), Rows2 W b1 z1 → Small2 z1 → Calls Try.prog 7 #[.int .i64 x0, .slice b1 z1.length d1] W (GivesFX W rh rz rc))
    (hI : ∀ (b1 : Option Addr) (d1 : Nat) (W : World), Rows2 W b1 z1 → Small2 z1 → Calls Try.prog 9 #[.int .i64 x0, .slice b1 z1.length d1] W (GivesFY W rh rz rc))
    (hsm : Small2 rz) :
    Calls Try.prog 3 #[.int .i64 x0, .slice a1 z1.length c1] w fun e w' => e = .returned (.bool true) ∧ Below w.heap.size w w' := by
  have HSP := Lib.hid hS
  have HIM := Lib.hid hI
  have HSM := Lib.hid hsm
  have hnz : rz.length ≤ 1048576 := hsm.1
  have htn := total_nonneg rz
  clear hS hI hsm
  have D := Lib.hid (Below.refl w.heap.size w)
  have R1 := Lib.hid hr1
  clear hr1
  have L1 := Lib.hid hl1
  clear hl1
  go_enter Try.func3, Try.ntmps3
  go_wp2_with fail
  refine (szInt64SS_any a1 z1 c1 1048576 w R1.out (by omega) (by omega) L1.out.1 L1.out.2).mono ?_
  rintro e w1 ⟨⟨u1, hu1, rfl⟩, rfl⟩
  rcases hu1 with rfl | ⟨hu10, hu11, hsm1⟩
  · go_wp2_with fail
    go_ret
    exact ⟨rfl, D.out⟩
  have S1 := Lib.hid hsm1
  have hz1 : z1.length ≤ 1048576 := hsm1.1
  clear hsm1
  go_wp2_with fail
  refine (toInt64SS_any a1 z1 c1 _ R1.out S1.out.1 S1.out.2).mono ?_
  rintro e w2 ⟨rfl, hz, hrow, hb⟩
  replace D := Lib.hid (chain D.out hb)
  replace R1 := Lib.hid (R1.out.step hb)
  have M1 := Lib.hid (hrow.rows)
  clear hb hrow hz
  go_wp2_with fail
  refine (HSP.out _ _ _ M1.out S1.out).mono ?_
  rintro e w3 ⟨⟨a, c, rfl, hw0⟩, hb⟩
  replace D := Lib.hid (chain D.out hb)
  replace R1 := Lib.hid (R1.out.step hb)
  have W0 := Lib.hid hw0.rows
  clear hb hw0 M1
  go_wp2_with fail
  have hb := (Below.refl w3.heap.size w3).alloc (Nat.le_refl _) (.cells #[.int .i64 rh, .slice a rz.length c] 25)
  have ha : Boxes (w3.alloc (.cells #[.int .i64 rh, .slice a rz.length c] 25)) w3.heap.size 25 #[.int .i64 rh, .slice a rz.length c] := World.alloc_heap_new w3 _
  have hzz : (w3.alloc (.cells #[.int .i64 rh, .slice a rz.length c] 25)).heap.size = w3.heap.size + 1 := by simp
  generalize w3.alloc (.cells #[.int .i64 rh, .slice a rz.length c] 25) = v4 at *
  replace D := Lib.hid (chain D.out hb)
  replace R1 := Lib.hid (R1.out.step hb)
  replace W0 := Lib.hid (W0.out.step hb)
  have A := Lib.hid ha
  clear hb ha
  generalize w3.heap.size = qa at *
  clear hzz
  have E := Lib.hid (Below.refl v4.heap.size v4)
  refine (toInt64SS_any a1 z1 c1 _ (R1.out.step E.out) S1.out.1 S1.out.2).mono ?_
  rintro e w4 ⟨rfl, hz, hrow, hb⟩
  obtain ⟨g1, hg1⟩ : ∃ g, v4.heap.size = g := ⟨_, rfl⟩
  rw [hg1] at hrow hz ⊢
  have hlo : v4.heap.size ≤ g1 := by omega
  replace E := Lib.hid (chain E.out hb)
  have X1 := Lib.hid hrow
  have G1 := Lib.hid (show v4.heap.size ≤ g1 ∧ w4.heap.size = g1 + 1 + z1.length from ⟨hlo, by omega⟩)
  clear hb hrow hz hg1 hlo
  go_wp2_with fail
  refine (HIM.out _ _ w4 X1.out.rows S1.out).mono ?_
  rintro e w5 ⟨⟨vg, us, rfl, hown⟩, hb⟩
  obtain ⟨ag, cg, rfl⟩ := hown.form
  obtain ⟨bs, hbs⟩ : ∃ b, w4.heap.size = b := ⟨_, rfl⟩
  have HBS := Lib.hid (show v4.heap.size ≤ bs by have := G1.out; omega)
  have HQ := Lib.hid (show bs ≤ w5.heap.size by have := hb.size; omega)
  replace E := Lib.hid (chain E.out hb)
  replace X1 := Lib.hid (X1.out.step hb)
  rw [hbs] at hown
  rw [hbs] at G1
  have G := Lib.hid hown
  clear hb hown hbs
  have r0 := (A.out.step E.out).c0
  have r1 := (A.out.step E.out).c1
  have s1 := (A.out.step E.out).lt
  go_wp2_with fail
  clear r0 r1 s1
  have hb := (Below.refl w5.heap.size w5).alloc (Nat.le_refl _) (.cells #[.int .i64 rh, .slice ag rz.length cg] 25)
  have ha : Boxes (w5.alloc (.cells #[.int .i64 rh, .slice ag rz.length cg] 25)) w5.heap.size 25 #[.int .i64 rh, .slice ag rz.length cg] := World.alloc_heap_new w5 _
  have hzz : (w5.alloc (.cells #[.int .i64 rh, .slice ag rz.length cg] 25)).heap.size = w5.heap.size + 1 := by simp
  generalize w5.alloc (.cells #[.int .i64 rh, .slice ag rz.length cg] 25) = v7 at *
  replace E := Lib.hid (chain E.out hb)
  replace X1 := Lib.hid (X1.out.step hb)
  replace G := Lib.hid (G.out.step hb)
  have GB := Lib.hid ha
  clear hb ha
  generalize w5.heap.size = qg at *
  clear hzz
  refine (eqFamily_same rh ag a rz cg c _ G.out.rows2v (W0.out.step E.out) HSM.out.lens.1 HSM.out.lens.2).mono ?_
  rintro e w6 ⟨rfl, hb⟩
  replace E := Lib.hid (chain E.out hb)
  replace X1 := Lib.hid (X1.out.step hb)
  replace G := Lib.hid (G.out.step hb)
  replace GB := Lib.hid (GB.out.step hb)
  clear hb
  go_wp2_with fail
  refine (toInt64SS_any a1 z1 c1 _ (R1.out.step E.out) S1.out.1 S1.out.2).mono ?_
  rintro e w7 ⟨rfl, hz, hrow, hb⟩
  replace E := Lib.hid (chain E.out hb)
  replace X1 := Lib.hid (X1.out.step hb)
  replace G := Lib.hid (G.out.step hb)
  replace GB := Lib.hid (GB.out.step hb)
  have Y := Lib.hid (hrow.rows)
  clear hb hrow hz
  go_wp2_with fail
  refine (eqInt64SS_same _ _ z1 _ _ _ X1.out.rows Y.out S1.out.lens.1 S1.out.lens.2).mono ?_
  rintro e w8 ⟨rfl, hq⟩
  have hb := quiet_below hq
  replace E := Lib.hid (chain E.out hb)
  replace X1 := Lib.hid (X1.out.step hb)
  replace G := Lib.hid (G.out.step hb)
  replace GB := Lib.hid (GB.out.step hb)
  clear hb hq Y
  go_wp2_with fail
  refine (markInt64SS_any g1 _ z1 1 _ X1.out S1.out (by omega) (by omega)).mono ?_
  rintro e w9 ⟨⟨⟨k1, hk1, rfl⟩, ht⟩, hsz⟩
  have hgl : g1 ≤ w8.heap.size := Nat.le_of_lt X1.out.top.lt
  replace E := Lib.hid (E.out.trans (ht.below G1.out.1 hgl))
  have hhi : g1 + 1 + z1.length ≤ bs := by have := G1.out.2; omega
  replace G := Lib.hid (Own.touch ht G.out hhi)
  replace GB := Lib.hid (GB.out.touch ht (by have := HQ.out; omega))
  clear ht hgl hhi hsz
  clear X1
  have p0 := GB.out.c0
  have p1 := GB.out.c1
  have r0 := (A.out.step E.out).c0
  have r1 := (A.out.step E.out).c1
  go_wp2_with fail
  refine (eqFamily_same rh ag a rz cg c _ G.out.rows2v (W0.out.step E.out) HSM.out.lens.1 HSM.out.lens.2).mono ?_
  rintro e w10 ⟨rfl, hb⟩
  replace E := Lib.hid (chain E.out hb)
  replace G := Lib.hid (G.out.step hb)
  replace GB := Lib.hid (GB.out.step hb)
  clear hb p0 p1 r0 r1
  have p0 := GB.out.c0
  have p1 := GB.out.c1
  go_wp2_with fail
  refine (markFamO_any rh _ us rz bs 1 _ G.out HSM.out (by omega) (by omega) (Nat.le_trans HQ.out (Nat.le_of_lt GB.out.lt))).mono ?_
  rintro e w11 ⟨rfl, hown, hb, hsz, hkt⟩
  replace E := Lib.hid (E.out.trans (hb.mono HBS.out))
  replace G := Lib.hid hown
  replace GB := Lib.hid (GB.out.keeps hkt (by decide))
  clear hown hb hsz hkt p0 p1
  have t2 : ((1 : Int) + total rz != (1 : Int) + total rz) = false := by simp
  have p0 := GB.out.c0
  have p1 := GB.out.c1
  go_wp2_with fail
  refine (heldFamO_any rh ag cg rz 1 _ G.out.rows2m HSM.out (by omega) (by omega)).mono ?_
  rintro e w12 ⟨rfl, hb⟩
  replace E := Lib.hid (chain E.out hb)
  replace G := Lib.hid (G.out.step hb)
  replace GB := Lib.hid (GB.out.step hb)
  clear hb p0 p1
  go_wp2_with fail
  refine (toInt64SS_any a1 z1 c1 _ (R1.out.step E.out) S1.out.1 S1.out.2).mono ?_
  rintro e w13 ⟨rfl, hz, hrow, hb⟩
  replace E := Lib.hid (chain E.out hb)
  replace G := Lib.hid (G.out.step hb)
  replace GB := Lib.hid (GB.out.step hb)
  have M1 := Lib.hid (hrow.rows)
  clear hb hrow hz
  go_wp2_with fail
  refine (HIM.out _ _ _ M1.out S1.out).mono ?_
  rintro e w14 ⟨⟨vh, uh, rfl, hown⟩, hb⟩
  obtain ⟨ah, ch, rfl⟩ := hown.form
  replace E := Lib.hid (chain E.out hb)
  replace G := Lib.hid (G.out.step hb)
  replace GB := Lib.hid (GB.out.step hb)
  have H := Lib.hid hown
  clear hb hown M1
  have r0 := (A.out.step E.out).c0
  have r1 := (A.out.step E.out).c1
  have s1 := (A.out.step E.out).lt
  go_wp2_with fail
  clear r0 r1 s1
  have hb := (Below.refl w14.heap.size w14).alloc (Nat.le_refl _) (.cells #[.int .i64 rh, .slice ah rz.length ch] 25)
  have ha : Boxes (w14.alloc (.cells #[.int .i64 rh, .slice ah rz.length ch] 25)) w14.heap.size 25 #[.int .i64 rh, .slice ah rz.length ch] := World.alloc_heap_new w14 _
  have hzz : (w14.alloc (.cells #[.int .i64 rh, .slice ah rz.length ch] 25)).heap.size = w14.heap.size + 1 := by simp
  generalize w14.alloc (.cells #[.int .i64 rh, .slice ah rz.length ch] 25) = v9 at *
  replace E := Lib.hid (chain E.out hb)
  replace G := Lib.hid (G.out.step hb)
  replace GB := Lib.hid (GB.out.step hb)
  replace H := Lib.hid (H.out.step hb)
  have HB := Lib.hid ha
  clear hb ha
  generalize w14.heap.size = qh at *
  clear hzz
  refine (eqFamily_same rh ah a rz ch c _ H.out.rows2v (W0.out.step E.out) HSM.out.lens.1 HSM.out.lens.2).mono ?_
  rintro e w15 ⟨rfl, hb⟩
  replace E := Lib.hid (chain E.out hb)
  replace G := Lib.hid (G.out.step hb)
  replace GB := Lib.hid (GB.out.step hb)
  replace H := Lib.hid (H.out.step hb)
  clear hb
  clear H HB
  have p0 := GB.out.c0
  have p1 := GB.out.c1
  go_wp2_with fail
  refine (heldFamO_any rh ag cg rz 1 _ G.out.rows2m HSM.out (by omega) (by omega)).mono ?_
  rintro e w16 ⟨rfl, hb⟩
  replace E := Lib.hid (chain E.out hb)
  replace G := Lib.hid (G.out.step hb)
  replace GB := Lib.hid (GB.out.step hb)
  clear hb p0 p1
  go_wp2_with fail
  go_ret
  exact ⟨rfl, D.out.trans (E.out.mono D.out.size)⟩
end LFamOf
end Go.Proofs.Ytpkflamhniidiaa

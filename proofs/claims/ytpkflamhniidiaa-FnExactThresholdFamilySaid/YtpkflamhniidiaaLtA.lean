/- The walk of 'laws.FnExactThresholdFamily', from what the two functions give. -/
import Derived.Test.YtpkflamhniidiaaLawA
namespace Go.Proofs.Ytpkflamhniidiaa
open Go.ChangeShapes Go.WideShapes Go.ChangeAt Go.RowKit Go.Deep
set_option linter.unusedVariables false
namespace LThreshold

set_option maxHeartbeats 2000000 in
set_option maxRecDepth 100000 in
theorem law_of (x0 : Int) (x1 : Int) (rh : Int) (rz : List (List Int)) (rc : Int) (w : World) 
    (hS : ∀ (W : World),  Calls Try.prog 15 #[.int .i64 x0, .int .i64 x1] W (GivesFX W rh rz rc))
    (hI : ∀ (W : World),  Calls Try.prog 16 #[.int .i64 x0, .int .i64 x1] W (GivesFY W rh rz rc))
    (hsm : Small2 rz) :
    Calls Try.prog 4 #[.int .i64 x0, .int .i64 x1] w fun e w' => e = .returned (.bool true) ∧ Below w.heap.size w w' := by
  have HSP := Lib.hid hS
  have HIM := Lib.hid hI
  have HSM := Lib.hid hsm
  have hnz : rz.length ≤ 1048576 := hsm.1
  have htn := total_nonneg rz
  clear hS hI hsm
  have D := Lib.hid (Below.refl w.heap.size w)
  go_enter Try.func4, Try.ntmps4
  go_wp2_with fail
  refine (HSP.out  _ ).mono ?_
  rintro e w1 ⟨⟨a, c, rfl, hw0⟩, hb⟩
  replace D := Lib.hid (chain D.out hb)
  have W0 := Lib.hid hw0.rows
  clear hb hw0
  go_wp2_with fail
  have hb := (Below.refl w1.heap.size w1).alloc (Nat.le_refl _) (.cells #[.int .i64 rh, .slice a rz.length c] 25)
  have ha : Boxes (w1.alloc (.cells #[.int .i64 rh, .slice a rz.length c] 25)) w1.heap.size 25 #[.int .i64 rh, .slice a rz.length c] := World.alloc_heap_new w1 _
  have hzz : (w1.alloc (.cells #[.int .i64 rh, .slice a rz.length c] 25)).heap.size = w1.heap.size + 1 := by simp
  generalize w1.alloc (.cells #[.int .i64 rh, .slice a rz.length c] 25) = v4 at *
  replace D := Lib.hid (chain D.out hb)
  replace W0 := Lib.hid (W0.out.step hb)
  have A := Lib.hid ha
  clear hb ha
  generalize w1.heap.size = qa at *
  clear hzz
  have E := Lib.hid (Below.refl v4.heap.size v4)
  refine (HIM.out  v4 ).mono ?_
  rintro e w2 ⟨⟨vg, us, rfl, hown⟩, hb⟩
  obtain ⟨ag, cg, rfl⟩ := hown.form
  obtain ⟨bs, hbs⟩ : ∃ b, v4.heap.size = b := ⟨_, rfl⟩
  have HBS := Lib.hid (show v4.heap.size ≤ bs by omega)
  have HQ := Lib.hid (show bs ≤ w2.heap.size by have := hb.size; omega)
  replace E := Lib.hid (chain E.out hb)
  rw [hbs] at hown
  have G := Lib.hid hown
  clear hb hown hbs
  have r0 := (A.out.step E.out).c0
  have r1 := (A.out.step E.out).c1
  have s1 := (A.out.step E.out).lt
  go_wp2_with fail
  clear r0 r1 s1
  have hb := (Below.refl w2.heap.size w2).alloc (Nat.le_refl _) (.cells #[.int .i64 rh, .slice ag rz.length cg] 25)
  have ha : Boxes (w2.alloc (.cells #[.int .i64 rh, .slice ag rz.length cg] 25)) w2.heap.size 25 #[.int .i64 rh, .slice ag rz.length cg] := World.alloc_heap_new w2 _
  have hzz : (w2.alloc (.cells #[.int .i64 rh, .slice ag rz.length cg] 25)).heap.size = w2.heap.size + 1 := by simp
  generalize w2.alloc (.cells #[.int .i64 rh, .slice ag rz.length cg] 25) = v7 at *
  replace E := Lib.hid (chain E.out hb)
  replace G := Lib.hid (G.out.step hb)
  have GB := Lib.hid ha
  clear hb ha
  generalize w2.heap.size = qg at *
  clear hzz
  refine (eqFamily_same rh ag a rz cg c _ G.out.rows2v (W0.out.step E.out) HSM.out.lens.1 HSM.out.lens.2).mono ?_
  rintro e w3 ⟨rfl, hb⟩
  replace E := Lib.hid (chain E.out hb)
  replace G := Lib.hid (G.out.step hb)
  replace GB := Lib.hid (GB.out.step hb)
  clear hb
  have p0 := GB.out.c0
  have p1 := GB.out.c1
  go_wp2_with fail
  refine (markFamO_any rh _ us rz bs 1 _ G.out HSM.out (by omega) (by omega) (Nat.le_trans HQ.out (Nat.le_of_lt GB.out.lt))).mono ?_
  rintro e w4 ⟨rfl, hown, hb, hsz, hkt⟩
  replace E := Lib.hid (E.out.trans (hb.mono HBS.out))
  replace G := Lib.hid hown
  replace GB := Lib.hid (GB.out.keeps hkt (by decide))
  clear hown hb hsz hkt p0 p1
  have t2 : ((1 : Int) + total rz != (1 : Int) + total rz) = false := by simp
  have p0 := GB.out.c0
  have p1 := GB.out.c1
  go_wp2_with fail
  refine (heldFamO_any rh ag cg rz 1 _ G.out.rows2m HSM.out (by omega) (by omega)).mono ?_
  rintro e w5 ⟨rfl, hb⟩
  replace E := Lib.hid (chain E.out hb)
  replace G := Lib.hid (G.out.step hb)
  replace GB := Lib.hid (GB.out.step hb)
  clear hb p0 p1
  go_wp2_with fail
  refine (HIM.out  _ ).mono ?_
  rintro e w6 ⟨⟨vh, uh, rfl, hown⟩, hb⟩
  obtain ⟨ah, ch, rfl⟩ := hown.form
  replace E := Lib.hid (chain E.out hb)
  replace G := Lib.hid (G.out.step hb)
  replace GB := Lib.hid (GB.out.step hb)
  have H := Lib.hid hown
  clear hb hown
  have r0 := (A.out.step E.out).c0
  have r1 := (A.out.step E.out).c1
  have s1 := (A.out.step E.out).lt
  go_wp2_with fail
  clear r0 r1 s1
  have hb := (Below.refl w6.heap.size w6).alloc (Nat.le_refl _) (.cells #[.int .i64 rh, .slice ah rz.length ch] 25)
  have ha : Boxes (w6.alloc (.cells #[.int .i64 rh, .slice ah rz.length ch] 25)) w6.heap.size 25 #[.int .i64 rh, .slice ah rz.length ch] := World.alloc_heap_new w6 _
  have hzz : (w6.alloc (.cells #[.int .i64 rh, .slice ah rz.length ch] 25)).heap.size = w6.heap.size + 1 := by simp
  generalize w6.alloc (.cells #[.int .i64 rh, .slice ah rz.length ch] 25) = v9 at *
  replace E := Lib.hid (chain E.out hb)
  replace G := Lib.hid (G.out.step hb)
  replace GB := Lib.hid (GB.out.step hb)
  replace H := Lib.hid (H.out.step hb)
  have HB := Lib.hid ha
  clear hb ha
  generalize w6.heap.size = qh at *
  clear hzz
  refine (eqFamily_same rh ah a rz ch c _ H.out.rows2v (W0.out.step E.out) HSM.out.lens.1 HSM.out.lens.2).mono ?_
  rintro e w7 ⟨rfl, hb⟩
  replace E := Lib.hid (chain E.out hb)
  replace G := Lib.hid (G.out.step hb)
  replace GB := Lib.hid (GB.out.step hb)
  replace H := Lib.hid (H.out.step hb)
  clear hb
  clear H HB
  have p0 := GB.out.c0
  have p1 := GB.out.c1
  go_wp2_with fail
  refine (heldFamO_any rh ag cg rz 1 _ G.out.rows2m HSM.out (by omega) (by omega)).mono ?_
  rintro e w8 ⟨rfl, hb⟩
  replace E := Lib.hid (chain E.out hb)
  replace G := Lib.hid (G.out.step hb)
  replace GB := Lib.hid (GB.out.step hb)
  clear hb p0 p1
  go_wp2_with fail
  go_ret
  exact ⟨rfl, D.out.trans (E.out.mono D.out.size)⟩
end LThreshold
end Go.Proofs.Ytpkflamhniidiaa

/- The walk of 'laws.FnExactWeightedFamily', from what the two functions give. -/
import Derived.Test.YtpkflamhniidiaaLawA
namespace Go.Proofs.Ytpkflamhniidiaa
open Go.ChangeShapes Go.WideShapes Go.ChangeAt Go.RowKit Go.Deep
set_option linter.unusedVariables false
namespace LWeighted

set_option maxHeartbeats 2000000 in
set_option maxRecDepth 100000 in
theorem law_of (a0 : Option Addr) (z0 : List Int) (c0 : Nat) (x1 : Int) (rh : Int) (rz : List (List Int)) (rc : Int) (w : World) (hr0 : Ints w a0 z0) (hl0 : z0.length ≤ 9223372036854775807)
    (hS : ∀ (b0 : Option Addr) (d0 : Nat) (W : World), Ints W b0 z0 → z0.length ≤ 1048576 → Calls Try.prog 17 #[.slice b0 z0.length d0, .int .i64 x1] W (GivesFX W rh rz rc))
    (hI : ∀ (b0 : Option Addr) (d0 : Nat) (W : World), Ints W b0 z0 → z0.length ≤ 1048576 → Calls Try.prog 19 #[.slice b0 z0.length d0, .int .i64 x1] W (GivesFY W rh rz rc))
    (hsm : Small2 rz) :
    Calls Try.prog 5 #[.slice a0 z0.length c0, .int .i64 x1] w fun e w' => e = .returned (.bool true) ∧ Below w.heap.size w w' := by
  have HSP := Lib.hid hS
  have HIM := Lib.hid hI
  have HSM := Lib.hid hsm
  have hnz : rz.length ≤ 1048576 := hsm.1
  have htn := total_nonneg rz
  clear hS hI hsm
  by_cases hbig0 : 1048576 < z0.length
  · have t1 : (1048576 : Int) < (z0.length : Int) := by omega
    go_enter Try.func5, Try.ntmps5
    go_wp2_with fail
    go_ret
    exact ⟨rfl, Below.refl _ _⟩
  have hs0 : z0.length ≤ 1048576 := by omega
  clear hbig0
  have D := Lib.hid (Below.refl w.heap.size w)
  have R0 := Lib.hid hr0
  clear hr0
  go_enter Try.func5, Try.ntmps5
  go_wp2_with fail
  refine (toInt64S_any a0 z0 c0 _ R0.out hs0).mono ?_
  rintro e w1 ⟨rfl, hz, hrow, hb⟩
  replace D := Lib.hid (chain D.out hb)
  replace R0 := Lib.hid (R0.out.step hb)
  have M0 := Lib.hid (Ints.of_row hrow)
  clear hb hrow hz
  go_wp2_with fail
  refine (HSP.out _ _ _ M0.out hs0).mono ?_
  rintro e w2 ⟨⟨a, c, rfl, hw0⟩, hb⟩
  replace D := Lib.hid (chain D.out hb)
  replace R0 := Lib.hid (R0.out.step hb)
  have W0 := Lib.hid hw0.rows
  clear hb hw0 M0
  go_wp2_with fail
  have hb := (Below.refl w2.heap.size w2).alloc (Nat.le_refl _) (.cells #[.int .i64 rh, .slice a rz.length c] 25)
  have ha : Boxes (w2.alloc (.cells #[.int .i64 rh, .slice a rz.length c] 25)) w2.heap.size 25 #[.int .i64 rh, .slice a rz.length c] := World.alloc_heap_new w2 _
  have hzz : (w2.alloc (.cells #[.int .i64 rh, .slice a rz.length c] 25)).heap.size = w2.heap.size + 1 := by simp
  generalize w2.alloc (.cells #[.int .i64 rh, .slice a rz.length c] 25) = v4 at *
  replace D := Lib.hid (chain D.out hb)
  replace R0 := Lib.hid (R0.out.step hb)
  replace W0 := Lib.hid (W0.out.step hb)
  have A := Lib.hid ha
  clear hb ha
  generalize w2.heap.size = qa at *
  clear hzz
  have E := Lib.hid (Below.refl v4.heap.size v4)
  refine (toInt64S_any a0 z0 c0 _ (R0.out.step E.out) hs0).mono ?_
  rintro e w3 ⟨rfl, hz, hrow, hb⟩
  obtain ⟨g0, hg0⟩ : ∃ g, v4.heap.size = g := ⟨_, rfl⟩
  rw [hg0] at hrow hz ⊢
  have hlo : v4.heap.size ≤ g0 := by omega
  replace E := Lib.hid (chain E.out hb)
  have X0 := Lib.hid (own_of_row hrow (by unfold maxLen; omega))
  have G0 := Lib.hid (show v4.heap.size ≤ g0 ∧ w3.heap.size = g0 + 1 from ⟨hlo, by omega⟩)
  clear hb hrow hz hg0 hlo
  go_wp2_with fail
  refine (HIM.out _ _ w3 (Ints_of_own X0.out) hs0).mono ?_
  rintro e w4 ⟨⟨vg, us, rfl, hown⟩, hb⟩
  obtain ⟨ag, cg, rfl⟩ := hown.form
  obtain ⟨bs, hbs⟩ : ∃ b, w3.heap.size = b := ⟨_, rfl⟩
  have HBS := Lib.hid (show v4.heap.size ≤ bs by have := G0.out; omega)
  have HQ := Lib.hid (show bs ≤ w4.heap.size by have := hb.size; omega)
  replace E := Lib.hid (chain E.out hb)
  replace X0 := Lib.hid (X0.out.step hb)
  rw [hbs] at hown
  rw [hbs] at G0
  have G := Lib.hid hown
  clear hb hown hbs
  have r0 := (A.out.step E.out).c0
  have r1 := (A.out.step E.out).c1
  have s1 := (A.out.step E.out).lt
  go_wp2_with fail
  clear r0 r1 s1
  have hb := (Below.refl w4.heap.size w4).alloc (Nat.le_refl _) (.cells #[.int .i64 rh, .slice ag rz.length cg] 25)
  have ha : Boxes (w4.alloc (.cells #[.int .i64 rh, .slice ag rz.length cg] 25)) w4.heap.size 25 #[.int .i64 rh, .slice ag rz.length cg] := World.alloc_heap_new w4 _
  have hzz : (w4.alloc (.cells #[.int .i64 rh, .slice ag rz.length cg] 25)).heap.size = w4.heap.size + 1 := by simp
  generalize w4.alloc (.cells #[.int .i64 rh, .slice ag rz.length cg] 25) = v7 at *
  replace E := Lib.hid (chain E.out hb)
  replace X0 := Lib.hid (X0.out.step hb)
  replace G := Lib.hid (G.out.step hb)
  have GB := Lib.hid ha
  clear hb ha
  generalize w4.heap.size = qg at *
  clear hzz
  refine (eqFamily_same rh ag a rz cg c _ G.out.rows2v (W0.out.step E.out) HSM.out.lens.1 HSM.out.lens.2).mono ?_
  rintro e w5 ⟨rfl, hb⟩
  replace E := Lib.hid (chain E.out hb)
  replace X0 := Lib.hid (X0.out.step hb)
  replace G := Lib.hid (G.out.step hb)
  replace GB := Lib.hid (GB.out.step hb)
  clear hb
  go_wp2_with fail
  refine (toInt64S_any a0 z0 c0 _ (R0.out.step E.out) hs0).mono ?_
  rintro e w6 ⟨rfl, hz, hrow, hb⟩
  replace E := Lib.hid (chain E.out hb)
  replace X0 := Lib.hid (X0.out.step hb)
  replace G := Lib.hid (G.out.step hb)
  replace GB := Lib.hid (GB.out.step hb)
  have Y := Lib.hid (Ints.of_row hrow)
  clear hb hrow hz
  go_wp2_with fail
  refine (eqInt64S_same _ _ z0 _ _ _ (Ints_of_own X0.out) Y.out (by omega)).mono ?_
  rintro e w7 ⟨rfl, hq⟩
  have hb := quiet_below hq
  replace E := Lib.hid (chain E.out hb)
  replace X0 := Lib.hid (X0.out.step hb)
  replace G := Lib.hid (G.out.step hb)
  replace GB := Lib.hid (GB.out.step hb)
  clear hb hq Y
  go_wp2_with fail
  refine (markInt64S_any _ z0 g0 1 _ X0.out (by omega) (by omega) (by omega)).mono ?_
  rintro e w8 ⟨rfl, hown, hsz, hgr⟩
  have ht : Touch g0 (g0 + 1) w7 w8 := Touch.of_grown hgr (fun q hq => by simp [Value.ownBlock] at hq; omega)
  have hgl : g0 ≤ w7.heap.size := Nat.le_of_lt (X0.out.lt rfl).2
  replace E := Lib.hid (E.out.trans (ht.below G0.out.1 hgl))
  have hhi : g0 + 1 ≤ bs := by have := G0.out.2; omega
  replace G := Lib.hid (Own.touch ht G.out hhi)
  replace GB := Lib.hid (GB.out.touch ht (by have := HQ.out; omega))
  clear ht hgl hhi hsz hown hgr
  clear X0
  have p0 := GB.out.c0
  have p1 := GB.out.c1
  have r0 := (A.out.step E.out).c0
  have r1 := (A.out.step E.out).c1
  go_wp2_with fail
  refine (eqFamily_same rh ag a rz cg c _ G.out.rows2v (W0.out.step E.out) HSM.out.lens.1 HSM.out.lens.2).mono ?_
  rintro e w9 ⟨rfl, hb⟩
  replace E := Lib.hid (chain E.out hb)
  replace G := Lib.hid (G.out.step hb)
  replace GB := Lib.hid (GB.out.step hb)
  clear hb p0 p1 r0 r1
  have p0 := GB.out.c0
  have p1 := GB.out.c1
  go_wp2_with fail
  refine (markFamO_any rh _ us rz bs 1 _ G.out HSM.out (by omega) (by omega) (Nat.le_trans HQ.out (Nat.le_of_lt GB.out.lt))).mono ?_
  rintro e w10 ⟨rfl, hown, hb, hsz, hkt⟩
  replace E := Lib.hid (E.out.trans (hb.mono HBS.out))
  replace G := Lib.hid hown
  replace GB := Lib.hid (GB.out.keeps hkt (by decide))
  clear hown hb hsz hkt p0 p1
  have t2 : ((1 : Int) + total rz != (1 : Int) + total rz) = false := by simp
  have p0 := GB.out.c0
  have p1 := GB.out.c1
  go_wp2_with fail
  refine (heldFamO_any rh ag cg rz 1 _ G.out.rows2m HSM.out (by omega) (by omega)).mono ?_
  rintro e w11 ⟨rfl, hb⟩
  replace E := Lib.hid (chain E.out hb)
  replace G := Lib.hid (G.out.step hb)
  replace GB := Lib.hid (GB.out.step hb)
  clear hb p0 p1
  go_wp2_with fail
  refine (toInt64S_any a0 z0 c0 _ (R0.out.step E.out) hs0).mono ?_
  rintro e w12 ⟨rfl, hz, hrow, hb⟩
  replace E := Lib.hid (chain E.out hb)
  replace G := Lib.hid (G.out.step hb)
  replace GB := Lib.hid (GB.out.step hb)
  have M0 := Lib.hid (Ints.of_row hrow)
  clear hb hrow hz
  go_wp2_with fail
  refine (HIM.out _ _ _ M0.out hs0).mono ?_
  rintro e w13 ⟨⟨vh, uh, rfl, hown⟩, hb⟩
  obtain ⟨ah, ch, rfl⟩ := hown.form
  replace E := Lib.hid (chain E.out hb)
  replace G := Lib.hid (G.out.step hb)
  replace GB := Lib.hid (GB.out.step hb)
  have H := Lib.hid hown
  clear hb hown M0
  have r0 := (A.out.step E.out).c0
  have r1 := (A.out.step E.out).c1
  have s1 := (A.out.step E.out).lt
  go_wp2_with fail
  clear r0 r1 s1
  have hb := (Below.refl w13.heap.size w13).alloc (Nat.le_refl _) (.cells #[.int .i64 rh, .slice ah rz.length ch] 25)
  have ha : Boxes (w13.alloc (.cells #[.int .i64 rh, .slice ah rz.length ch] 25)) w13.heap.size 25 #[.int .i64 rh, .slice ah rz.length ch] := World.alloc_heap_new w13 _
  have hzz : (w13.alloc (.cells #[.int .i64 rh, .slice ah rz.length ch] 25)).heap.size = w13.heap.size + 1 := by simp
  generalize w13.alloc (.cells #[.int .i64 rh, .slice ah rz.length ch] 25) = v9 at *
  replace E := Lib.hid (chain E.out hb)
  replace G := Lib.hid (G.out.step hb)
  replace GB := Lib.hid (GB.out.step hb)
  replace H := Lib.hid (H.out.step hb)
  have HB := Lib.hid ha
  clear hb ha
  generalize w13.heap.size = qh at *
  clear hzz
  refine (eqFamily_same rh ah a rz ch c _ H.out.rows2v (W0.out.step E.out) HSM.out.lens.1 HSM.out.lens.2).mono ?_
  rintro e w14 ⟨rfl, hb⟩
  replace E := Lib.hid (chain E.out hb)
  replace G := Lib.hid (G.out.step hb)
  replace GB := Lib.hid (GB.out.step hb)
  replace H := Lib.hid (H.out.step hb)
  clear hb
  clear H HB
  have p0 := GB.out.c0
  have p1 := GB.out.c1
  go_wp2_with fail
  refine (heldFamO_any rh ag cg rz 1 _ G.out.rows2m HSM.out (by omega) (by omega)).mono ?_
  rintro e w15 ⟨rfl, hb⟩
  replace E := Lib.hid (chain E.out hb)
  replace G := Lib.hid (G.out.step hb)
  replace GB := Lib.hid (GB.out.step hb)
  clear hb p0 p1
  go_wp2_with fail
  go_ret
  exact ⟨rfl, D.out.trans (E.out.mono D.out.size)⟩
end LWeighted
end Go.Proofs.Ytpkflamhniidiaa

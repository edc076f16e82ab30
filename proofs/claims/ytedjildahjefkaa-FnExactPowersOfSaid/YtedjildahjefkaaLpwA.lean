/- The walk of 'laws.FnExactPowersOf', from what the two functions give. -/
import Derived.Test.YtedjildahjefkaaPws
import Derived.Deep.RegionHeld3
import Derived.Deep.CutRange
namespace Go.Proofs.Ytedjildahjefkaa
open Go.ChangeShapes Go.WideShapes Go.ChangeAt Go.RowKit Go.Deep
set_option linter.unusedVariables false
namespace PowersOf

/-- What is carried over the second half. -/
structure Carry (v4 : World) (g1 : Nat) (z1 : List Int) (bs : Nat) (ag : Option Addr) (cg : Nat) (us : List Value) (rz : List (List Int)) (qg : Nat) (rh : Int) (rk : Int) (W : World) : Prop where
  e : Below v4.heap.size v4 W
  x1 : OwnI W g1 (.slice (some ⟨g1, 0, none⟩) z1.length z1.length) z1
  g : Own W bs (.slice ag rz.length cg) us rz
  gb : Boxes W qg 30 #[.int .i64 rh, .int .i64 rk, .slice ag rz.length cg]

theorem Carry.step {v4 : World} {g1 : Nat} {z1 : List Int} {bs : Nat} {ag : Option Addr} {cg : Nat} {us : List Value} {rz : List (List Int)} {qg : Nat} {rh : Int} {rk : Int} {W W' : World} (hb : Below W.heap.size W W') (k : Carry v4 g1 z1 bs ag cg us rz qg rh rk W) : Carry v4 g1 z1 bs ag cg us rz qg rh rk W' := ⟨chain k.e hb, k.x1.step hb, k.g.step hb, k.gb.step hb⟩


set_option maxHeartbeats 4000000 in
set_option maxRecDepth 100000 in
theorem law_of (x0 : Int) (a1 : Option Addr) (z1 : List Int) (c1 : Nat) (x2 : Int) (rh rk : Int) (rz : List (List Int)) (rc : Int) (w : World) (wf0 : (Lit.int .i64 x0).wf = true) (hr1 : Ints w a1 z1) (hl1 : z1.length ≤ 9223372036854775807) (wf2 : (Lit.int .i64 x2).wf = true)
    (hS : ∀ (b1 : Option Addr) (d1 : Nat) (W : World), Ints W b1 z1 → z1.length ≤ 1048576 → Calls Try.prog 22 #[.int .i64 x0, .slice b1 z1.length d1, .int .i64 x2] W (GivesMX W rh rk rz rc))
    (hI : ∀ (b1 : Option Addr) (d1 : Nat) (W : World), Ints W b1 z1 → z1.length ≤ 1048576 → Calls Try.prog 23 #[.int .i64 x0, .slice b1 z1.length d1, .int .i64 x2] W (GivesMY W rh rk rz rc))
    (hsm : Small2 rz) :
    Calls Try.prog 6 #[.int .i64 x0, .slice a1 z1.length c1, .int .i64 x2] w fun e w' => e = .returned (.bool true) ∧ Below w.heap.size w w' := by
  have HSP := Lib.hid hS
  have HIM := Lib.hid hI
  clear hS hI
  have HSM := Lib.hid hsm
  have hnz : rz.length ≤ 1048576 := hsm.1
  have htn := total_nonneg rz
  clear hsm
  by_cases hbig1 : 1048576 < z1.length
  · have t1 : (1048576 : Int) < (z1.length : Int) := by omega
    go_enter Try.func6, Try.ntmps6
    go_wp2_with fail
    go_ret
    exact ⟨rfl, by first | exact Below.refl _ _ | go_grown⟩
  have hs1 : z1.length ≤ 1048576 := by omega
  clear hbig1
  have D := Lib.hid (Below.refl w.heap.size w)
  have R1 := Lib.hid hr1
  clear hr1
  go_enter Try.func6, Try.ntmps6
  go_wp2_with fail
  skip
  refine (toInt64S_any a1 z1 c1 _ R1.out hs1).mono ?_
  rintro e w1 ⟨rfl, hz, hrow, hb⟩
  replace D := Lib.hid (chain D.out hb)
  replace R1 := Lib.hid (R1.out.step hb)
  have M1 := Lib.hid (Ints.of_row hrow)
  clear hb hrow hz
  go_wp2_with fail
  refine (HSP.out _ _ _ M1.out hs1).mono ?_
  rintro e w2 ⟨⟨a, c, rfl, hw0⟩, hb⟩
  replace D := Lib.hid (chain D.out hb)
  replace R1 := Lib.hid (R1.out.step hb)
  have W0 := Lib.hid hw0
  clear hb hw0 M1
  go_wp2_with fail
  have hb := (Below.refl w2.heap.size w2).alloc (Nat.le_refl _) (.cells #[.int .i64 rh, .int .i64 rk, .slice a rz.length c] 30)
  have ha : Boxes (w2.alloc (.cells #[.int .i64 rh, .int .i64 rk, .slice a rz.length c] 30)) w2.heap.size 30 #[.int .i64 rh, .int .i64 rk, .slice a rz.length c] := World.alloc_heap_new w2 _
  generalize w2.alloc (.cells #[.int .i64 rh, .int .i64 rk, .slice a rz.length c] 30) = v4 at *
  replace D := Lib.hid (chain D.out hb)
  replace R1 := Lib.hid (R1.out.step hb)
  replace W0 := Lib.hid (W0.out.step hb)
  have A := Lib.hid ha
  clear hb ha
  generalize w2.heap.size = qa at *
  have E := Lib.hid (Below.refl v4.heap.size v4)
  refine (toInt64S_any a1 z1 c1 _ (R1.out.step E.out) hs1).mono ?_
  rintro e w3 ⟨rfl, hz, hrow, hb⟩
  obtain ⟨g1, hg1⟩ : ∃ g, v4.heap.size = g := ⟨_, rfl⟩
  rw [hg1] at hrow hz ⊢
  have hlo : v4.heap.size ≤ g1 := by omega
  replace E := Lib.hid (chain E.out hb)
  have X1 := Lib.hid (own_of_row hrow (by unfold maxLen; omega))
  have G1 := Lib.hid (show v4.heap.size ≤ g1 ∧ g1 + 1 ≤ w3.heap.size from ⟨hlo, by omega⟩)
  clear hb hrow hz hg1 hlo
  have Ac0 := (A.out.step E.out).m0
  have Ac1 := (A.out.step E.out).m1
  have Ac2 := (A.out.step E.out).m2
  have Alt := (A.out.step E.out).lt
  go_wp2_with fail
  clear Ac0 Ac1 Ac2 Alt
  refine (HIM.out _ _ w3 (Ints_of_own X1.out) hs1).mono ?_
  rintro e w4 ⟨⟨vg, us, rfl, hown⟩, hb⟩
  obtain ⟨ag, cg, rfl⟩ := hown.form
  obtain ⟨bs, hbs⟩ : ∃ b, w3.heap.size = b := ⟨_, rfl⟩
  have HBS := Lib.hid (show v4.heap.size ≤ bs by have := G1.out; omega)
  have HQ := Lib.hid (show bs ≤ w4.heap.size by have := hb.size; omega)
  replace E := Lib.hid (chain E.out hb)
  replace X1 := Lib.hid (X1.out.step hb)
  rw [hbs] at hown
  rw [hbs] at G1
  have G := Lib.hid hown
  clear hb hown hbs
  have Ac0 := (A.out.step E.out).m0
  have Ac1 := (A.out.step E.out).m1
  have Ac2 := (A.out.step E.out).m2
  have Alt := (A.out.step E.out).lt
  go_wp2_with fail
  clear Ac0 Ac1 Ac2 Alt
  have hb := (Below.refl w4.heap.size w4).alloc (Nat.le_refl _) (.cells #[.int .i64 rh, .int .i64 rk, .slice ag rz.length cg] 30)
  have ha : Boxes (w4.alloc (.cells #[.int .i64 rh, .int .i64 rk, .slice ag rz.length cg] 30)) w4.heap.size 30 #[.int .i64 rh, .int .i64 rk, .slice ag rz.length cg] := World.alloc_heap_new w4 _
  generalize w4.alloc (.cells #[.int .i64 rh, .int .i64 rk, .slice ag rz.length cg] 30) = v7 at *
  replace E := Lib.hid (chain E.out hb)
  replace X1 := Lib.hid (X1.out.step hb)
  replace G := Lib.hid (G.out.step hb)
  have GB := Lib.hid ha
  clear hb ha
  generalize w4.heap.size = qg at *
  refine (eqMatrix_same rh rk ag a rz cg c _ G.out.rows2v (W0.out.step E.out) HSM.out.lens.1 HSM.out.lens.2).mono ?_
  rintro e w5 ⟨rfl, hb⟩
  replace E := Lib.hid (chain E.out hb)
  replace X1 := Lib.hid (X1.out.step hb)
  replace G := Lib.hid (G.out.step hb)
  replace GB := Lib.hid (GB.out.step hb)
  clear hb
  have Ac0 := (A.out.step E.out).m0
  have Ac1 := (A.out.step E.out).m1
  have Ac2 := (A.out.step E.out).m2
  have Alt := (A.out.step E.out).lt
  have GBc0 := (GB.out).m0
  have GBc1 := (GB.out).m1
  have GBc2 := (GB.out).m2
  have GBlt := (GB.out).lt
  go_wp2_with fail
  clear Ac0 Ac1 Ac2 Alt GBc0 GBc1 GBc2 GBlt
  refine (toInt64S_any a1 z1 c1 _ (R1.out.step E.out) hs1).mono ?_
  rintro e w6 ⟨rfl, hz, hrow, hb⟩
  replace E := Lib.hid (chain E.out hb)
  replace X1 := Lib.hid (X1.out.step hb)
  replace G := Lib.hid (G.out.step hb)
  replace GB := Lib.hid (GB.out.step hb)
  have Y := Lib.hid (Ints.of_row hrow)
  clear hb hrow hz
  have Ac0 := (A.out.step E.out).m0
  have Ac1 := (A.out.step E.out).m1
  have Ac2 := (A.out.step E.out).m2
  have Alt := (A.out.step E.out).lt
  have GBc0 := (GB.out).m0
  have GBc1 := (GB.out).m1
  have GBc2 := (GB.out).m2
  have GBlt := (GB.out).lt
  go_wp2_with fail
  clear Ac0 Ac1 Ac2 Alt GBc0 GBc1 GBc2 GBlt
  refine (eqInt64S_same _ _ z1 _ _ _ (Ints_of_own X1.out) Y.out (by omega)).mono ?_
  rintro e w7 ⟨rfl, hq⟩
  have hb := quiet_below hq
  replace E := Lib.hid (chain E.out hb)
  replace X1 := Lib.hid (X1.out.step hb)
  replace G := Lib.hid (G.out.step hb)
  replace GB := Lib.hid (GB.out.step hb)
  clear hb hq Y
  have Ac0 := (A.out.step E.out).m0
  have Ac1 := (A.out.step E.out).m1
  have Ac2 := (A.out.step E.out).m2
  have Alt := (A.out.step E.out).lt
  have GBc0 := (GB.out).m0
  have GBc1 := (GB.out).m1
  have GBc2 := (GB.out).m2
  have GBlt := (GB.out).lt
  go_wp2_with fail
  clear Ac0 Ac1 Ac2 Alt GBc0 GBc1 GBc2 GBlt
  refine (markInt64S_any _ z1 g1 1 _ X1.out (by omega) (by omega) (by omega)).mono ?_
  rintro e w8 ⟨rfl, hown, hsz, hgr⟩
  have ht : Touch g1 (g1 + 1) _ w8 := Touch.of_grown hgr (fun q hq => by simp [Value.ownBlock] at hq; omega)
  have hgl := Nat.le_of_lt (X1.out.lt rfl).2
  clear hown hgr hsz
  replace E := Lib.hid (E.out.trans (ht.below G1.out.1 hgl))
  have hhi : g1 + 1 ≤ bs := by have := G1.out.2; omega
  replace G := Lib.hid (Own.touch ht G.out hhi)
  replace GB := Lib.hid (GB.out.touch ht (by have := HQ.out; omega))
  clear ht hgl hhi
  clear X1
  have Ac0 := (A.out.step E.out).m0
  have Ac1 := (A.out.step E.out).m1
  have Ac2 := (A.out.step E.out).m2
  have Alt := (A.out.step E.out).lt
  have GBc0 := (GB.out).m0
  have GBc1 := (GB.out).m1
  have GBc2 := (GB.out).m2
  have GBlt := (GB.out).lt
  go_wp2_with fail
  clear Ac0 Ac1 Ac2 Alt GBc0 GBc1 GBc2 GBlt
  refine (eqMatrix_same rh rk ag a rz cg c _ G.out.rows2v (W0.out.step E.out) HSM.out.lens.1 HSM.out.lens.2).mono ?_
  rintro e w9 ⟨rfl, hb⟩
  replace E := Lib.hid (chain E.out hb)
  replace G := Lib.hid (G.out.step hb)
  replace GB := Lib.hid (GB.out.step hb)
  clear hb
  have GBc0 := (GB.out).m0
  have GBc1 := (GB.out).m1
  have GBc2 := (GB.out).m2
  have GBlt := (GB.out).lt
  go_wp2_with fail
  clear GBc0 GBc1 GBc2 GBlt
  refine (markMatO_any rh rk _ us rz bs 1 _ G.out HSM.out (by omega) (by omega) (Nat.le_trans HQ.out (Nat.le_of_lt GB.out.lt))).mono ?_
  rintro e w10 ⟨rfl, hown, hb, hsz, hkt⟩
  replace E := Lib.hid (E.out.trans (hb.mono HBS.out))
  replace G := Lib.hid hown
  replace GB := Lib.hid (GB.out.keeps hkt (by decide))
  clear hown hb hsz hkt
  have t2 : ((1 : Int) + total rz != (1 : Int) + total rz) = false := by simp
  have GBc0 := (GB.out).m0
  have GBc1 := (GB.out).m1
  have GBc2 := (GB.out).m2
  have GBlt := (GB.out).lt
  go_wp2_with fail
  clear GBc0 GBc1 GBc2 GBlt
  refine (heldMatO_any rh rk ag cg rz 1 _ G.out.rows2m HSM.out (by omega) (by omega)).mono ?_
  rintro e w11 ⟨rfl, hb⟩
  replace E := Lib.hid (chain E.out hb)
  replace G := Lib.hid (G.out.step hb)
  replace GB := Lib.hid (GB.out.step hb)
  clear hb
  go_wp2_with fail
  refine (toInt64S_any a1 z1 c1 _ (R1.out.step E.out) hs1).mono ?_
  rintro e w12 ⟨rfl, hz, hrow, hb⟩
  replace E := Lib.hid (chain E.out hb)
  replace G := Lib.hid (G.out.step hb)
  replace GB := Lib.hid (GB.out.step hb)
  have M1 := Lib.hid (Ints.of_row hrow)
  clear hb hrow hz
  have Ac0 := (A.out.step E.out).m0
  have Ac1 := (A.out.step E.out).m1
  have Ac2 := (A.out.step E.out).m2
  have Alt := (A.out.step E.out).lt
  have GBc0 := (GB.out).m0
  have GBc1 := (GB.out).m1
  have GBc2 := (GB.out).m2
  have GBlt := (GB.out).lt
  go_wp2_with fail
  clear Ac0 Ac1 Ac2 Alt GBc0 GBc1 GBc2 GBlt
  refine (HIM.out _ _ _ M1.out hs1).mono ?_
  rintro e w13 ⟨⟨vh, uh, rfl, hown⟩, hb⟩
  obtain ⟨ah, ch, rfl⟩ := hown.form
  replace E := Lib.hid (chain E.out hb)
  replace G := Lib.hid (G.out.step hb)
  replace GB := Lib.hid (GB.out.step hb)
  have H := Lib.hid hown
  clear hb hown M1
  have Ac0 := (A.out.step E.out).m0
  have Ac1 := (A.out.step E.out).m1
  have Ac2 := (A.out.step E.out).m2
  have Alt := (A.out.step E.out).lt
  have GBc0 := (GB.out).m0
  have GBc1 := (GB.out).m1
  have GBc2 := (GB.out).m2
  have GBlt := (GB.out).lt
  go_wp2_with fail
  clear Ac0 Ac1 Ac2 Alt GBc0 GBc1 GBc2 GBlt
  have hb := (Below.refl w13.heap.size w13).alloc (Nat.le_refl _) (.cells #[.int .i64 rh, .int .i64 rk, .slice ah rz.length ch] 30)
  have ha : Boxes (w13.alloc (.cells #[.int .i64 rh, .int .i64 rk, .slice ah rz.length ch] 30)) w13.heap.size 30 #[.int .i64 rh, .int .i64 rk, .slice ah rz.length ch] := World.alloc_heap_new w13 _
  generalize w13.alloc (.cells #[.int .i64 rh, .int .i64 rk, .slice ah rz.length ch] 30) = v9 at *
  replace E := Lib.hid (chain E.out hb)
  replace G := Lib.hid (G.out.step hb)
  replace GB := Lib.hid (GB.out.step hb)
  replace H := Lib.hid (H.out.step hb)
  have HB := Lib.hid ha
  clear hb ha
  generalize w13.heap.size = qh at *
  refine (eqMatrix_same rh rk ah a rz ch c _ H.out.rows2v (W0.out.step E.out) HSM.out.lens.1 HSM.out.lens.2).mono ?_
  rintro e w14 ⟨rfl, hb⟩
  replace E := Lib.hid (chain E.out hb)
  replace G := Lib.hid (G.out.step hb)
  replace GB := Lib.hid (GB.out.step hb)
  replace H := Lib.hid (H.out.step hb)
  clear hb
  clear H HB
  have GBc0 := (GB.out).m0
  have GBc1 := (GB.out).m1
  have GBc2 := (GB.out).m2
  have GBlt := (GB.out).lt
  go_wp2_with fail
  clear GBc0 GBc1 GBc2 GBlt
  refine (heldMatO_any rh rk ag cg rz 1 _ G.out.rows2m HSM.out (by omega) (by omega)).mono ?_
  rintro e w15 ⟨rfl, hb⟩
  replace E := Lib.hid (chain E.out hb)
  replace G := Lib.hid (G.out.step hb)
  replace GB := Lib.hid (GB.out.step hb)
  clear hb
  go_wp2_with fail
  go_ret
  exact ⟨rfl, D.out.trans (E.out.mono D.out.size)⟩
end PowersOf
end Go.Proofs.Ytedjildahjefkaa

/- The walk of 'laws.FnExactInverseOf', from what the two functions give. -/
import Derived.Test.YtekhjoenejgmaaaInp
import Derived.Test.YtekhjoenejgmaaaInq
import Derived.Deep.RegionHeld3
import Derived.Deep.CutRange
namespace Go.Proofs.Ytekhjoenejgmaaa
open Go.ChangeShapes Go.WideShapes Go.ChangeAt Go.RowKit Go.Deep
set_option linter.unusedVariables false
namespace Inv

/-- What is carried over the second half. -/
structure Carry (v4 : World) (g0 : Nat) (z0 : List (List Int)) (px0 : Nat) (h0 : Int) (l0 : Int) (bs : Nat) (ag : Option Addr) (cg : Nat) (us : List Value) (rz : List (List Int)) (qg : Nat) (rh : Int) (rk : Int) (W : World) : Prop where
  e : Below v4.heap.size v4 W
  x0 : Own2 W g0 z0
  b0 : Boxes W px0 31 #[.int .i64 h0, .int .i64 l0, .slice (some ⟨g0, 0, none⟩) z0.length z0.length]
  g : Own W bs (.slice ag rz.length cg) us rz
  gb : Boxes W qg 31 #[.int .i64 rh, .int .i64 rk, .slice ag rz.length cg]

theorem Carry.step {v4 : World} {g0 : Nat} {z0 : List (List Int)} {px0 : Nat} {h0 : Int} {l0 : Int} {bs : Nat} {ag : Option Addr} {cg : Nat} {us : List Value} {rz : List (List Int)} {qg : Nat} {rh : Int} {rk : Int} {W W' : World} (hb : Below W.heap.size W W') (k : Carry v4 g0 z0 px0 h0 l0 bs ag cg us rz qg rh rk W) : Carry v4 g0 z0 px0 h0 l0 bs ag cg us rz qg rh rk W' := ⟨chain k.e hb, k.x0.step hb, k.b0.step hb, k.g.step hb, k.gb.step hb⟩
theorem keep6 {w w' : World} {p1 p2 p3 p4 p5 p6 : Addr} {u1 u2 u3 u4 u5 u6 : Value} {C : World → Prop} (hb : Below w.heap.size w w') (hC : C w → C w') (h : w.cell? p1 = some u1 ∧ w.cell? p2 = some u2 ∧ w.cell? p3 = some u3 ∧ w.cell? p4 = some u4 ∧ w.cell? p5 = some u5 ∧ w.cell? p6 = some u6 ∧ C w) : w'.cell? p1 = some u1 ∧ w'.cell? p2 = some u2 ∧ w'.cell? p3 = some u3 ∧ w'.cell? p4 = some u4 ∧ w'.cell? p5 = some u5 ∧ w'.cell? p6 = some u6 ∧ C w' :=
  ⟨cell_step hb h.1, cell_step hb h.2.1, cell_step hb h.2.2.1, cell_step hb h.2.2.2.1, cell_step hb h.2.2.2.2.1, cell_step hb h.2.2.2.2.2.1, hC h.2.2.2.2.2.2⟩

set_option maxHeartbeats 4000000 in
set_option maxRecDepth 100000 in
theorem law_of (h0 l0 : Int) (a0 : Option Addr) (z0 : List (List Int)) (c0 : Nat) (rh rk : Int) (rz : List (List Int)) (rc : Int) (w : World) (hr0 : Rows2 w a0 z0) (hl0 : Lens z0) (wfh0 : (Lit.int .i64 h0).wf = true) (wfl0 : (Lit.int .i64 l0).wf = true)
    
    (hS : ∀ (b0 : Option Addr) (d0 : Nat) (W : World), Rows2 W b0 z0 → Small2 z0 → Calls Try.prog 38 #[.agg #[.int .i64 h0, .int .i64 l0, .slice b0 z0.length d0]] W (GivesMX W rh rk rz rc))
    (hI : ∀ (b0 : Option Addr) (d0 : Nat) (W : World), Rows2 W b0 z0 → Small2 z0 → Calls Try.prog 39 #[.agg #[.int .i64 h0, .int .i64 l0, .slice b0 z0.length d0]] W (GivesMY W rh rk rz rc))
    (hsm : Small2 rz) :
    Calls Try.prog 8 #[.agg #[.int .i64 h0, .int .i64 l0, .slice a0 z0.length c0]] w fun e w' => e = .returned (.bool true) ∧ Below w.heap.size w w' := by
  have HSP := Lib.hid hS
  have HIM := Lib.hid hI
  clear hS hI
  have HSM := Lib.hid hsm
  have hnz : rz.length ≤ 1048576 := hsm.1
  have htn := total_nonneg rz
  clear hsm
  have D := Lib.hid (Below.refl w.heap.size w)
  have R0 := Lib.hid hr0
  clear hr0
  have L0 := Lib.hid hl0
  clear hl0
  go_enter Try.func8, Try.ntmps8
  go_wp2_with fail
  have hb := (Below.refl (w).heap.size (w)).alloc (Nat.le_refl _) (.cells #[.int .i64 h0, .int .i64 l0, .slice a0 z0.length c0] 25)
  have ha0 : Boxes ((w).alloc (.cells #[.int .i64 h0, .int .i64 l0, .slice a0 z0.length c0] 25)) (w).heap.size 25 #[.int .i64 h0, .int .i64 l0, .slice a0 z0.length c0] := World.alloc_heap_new _ _
  replace D := Lib.hid (chain D.out hb)
  replace R0 := Lib.hid (R0.out.step hb)
  clear hb
  skip
  generalize hv1 : (w).alloc (.cells #[.int .i64 h0, .int .i64 l0, .slice a0 z0.length c0] 25) = v1 at *
  have B0 := Lib.hid ha0
  clear ha0
  clear hv1
  refine (szMatrix_any h0 l0 a0 z0 c0 1048576 _ R0.out (by omega) (by omega) L0.out.1 L0.out.2).mono ?_
  rintro e w1 ⟨⟨u0, hu0, rfl⟩, hb⟩
  replace D := Lib.hid (chain D.out hb)
  replace R0 := Lib.hid (R0.out.step hb)
  replace B0 := Lib.hid (B0.out.step hb)
  clear hb
  rcases hu0 with rfl | ⟨hu00, hu01, hsm0⟩
  · go_wp2_with fail
    go_ret
    exact ⟨rfl, D.out⟩
  have S0 := Lib.hid hsm0
  have hz0 : z0.length ≤ 1048576 := hsm0.1
  clear hsm0
  have B0c0 := (B0.out).m0
  have B0c1 := (B0.out).m1
  have B0c2 := (B0.out).m2
  have B0lt := (B0.out).lt
  go_wp2_with fail
  clear B0c0 B0c1 B0c2 B0lt
  refine (toMatrix_any h0 l0 a0 z0 c0 _ R0.out S0.out).mono ?_
  rintro e w2 ⟨rfl, hz, hrow, hb⟩
  replace D := Lib.hid (chain D.out hb)
  replace R0 := Lib.hid (R0.out.step hb)
  replace B0 := Lib.hid (B0.out.step hb)
  have M0 := Lib.hid (hrow.rows)
  clear hb hrow hz
  have B0c0 := (B0.out).m0
  have B0c1 := (B0.out).m1
  have B0c2 := (B0.out).m2
  have B0lt := (B0.out).lt
  go_wp2_with fail
  clear B0c0 B0c1 B0c2 B0lt
  refine (HSP.out _ _ _ M0.out S0.out).mono ?_
  rintro e w3 ⟨⟨a, c, rfl, hw0⟩, hb⟩
  replace D := Lib.hid (chain D.out hb)
  replace R0 := Lib.hid (R0.out.step hb)
  replace B0 := Lib.hid (B0.out.step hb)
  have W0 := Lib.hid hw0
  clear hb hw0 M0
  have B0c0 := (B0.out).m0
  have B0c1 := (B0.out).m1
  have B0c2 := (B0.out).m2
  have B0lt := (B0.out).lt
  go_wp2_with fail
  clear B0c0 B0c1 B0c2 B0lt
  have hb := (Below.refl w3.heap.size w3).alloc (Nat.le_refl _) (.cells #[.int .i64 rh, .int .i64 rk, .slice a rz.length c] 31)
  have ha : Boxes (w3.alloc (.cells #[.int .i64 rh, .int .i64 rk, .slice a rz.length c] 31)) w3.heap.size 31 #[.int .i64 rh, .int .i64 rk, .slice a rz.length c] := World.alloc_heap_new w3 _
  generalize w3.alloc (.cells #[.int .i64 rh, .int .i64 rk, .slice a rz.length c] 31) = v4 at *
  replace D := Lib.hid (chain D.out hb)
  replace R0 := Lib.hid (R0.out.step hb)
  replace B0 := Lib.hid (B0.out.step hb)
  replace W0 := Lib.hid (W0.out.step hb)
  have A := Lib.hid ha
  clear hb ha
  generalize w3.heap.size = qa at *
  have E := Lib.hid (Below.refl v4.heap.size v4)
  refine (toMatrix_any h0 l0 a0 z0 c0 _ (R0.out.step E.out) S0.out).mono ?_
  rintro e w4 ⟨rfl, hz, hrow, hb⟩
  obtain ⟨g0, hg0⟩ : ∃ g, v4.heap.size + 3 = g := ⟨_, rfl⟩
  rw [hg0] at hrow ⊢
  have hlo : v4.heap.size ≤ g0 := by omega
  replace E := Lib.hid (chain E.out hb)
  have X0 := Lib.hid hrow
  have G0 := Lib.hid (show v4.heap.size ≤ g0 ∧ g0 + 1 + z0.length ≤ w4.heap.size from ⟨hlo, by omega⟩)
  clear hb hrow hz hg0 hlo
  have B0c0 := (B0.out.step E.out).m0
  have B0c1 := (B0.out.step E.out).m1
  have B0c2 := (B0.out.step E.out).m2
  have B0lt := (B0.out.step E.out).lt
  have Ac0 := (A.out.step E.out).m0
  have Ac1 := (A.out.step E.out).m1
  have Ac2 := (A.out.step E.out).m2
  have Alt := (A.out.step E.out).lt
  go_wp2_with fail
  clear B0c0 B0c1 B0c2 B0lt Ac0 Ac1 Ac2 Alt
  have hsz : w4.heap.size ≤ (w4.alloc (.cells #[.int .i64 h0, .int .i64 l0, .slice (some ⟨g0, 0, none⟩) z0.length z0.length] 31)).heap.size := by simp
  replace G0 := Lib.hid (show v4.heap.size ≤ g0 ∧ g0 + 1 + z0.length ≤ (w4.alloc (.cells #[.int .i64 h0, .int .i64 l0, .slice (some ⟨g0, 0, none⟩) z0.length z0.length] 31)).heap.size from ⟨G0.out.1, Nat.le_trans G0.out.2 hsz⟩)
  have HPX0 := Lib.hid (show v4.heap.size ≤ w4.heap.size from E.out.size)
  clear hsz
  have hb := (Below.refl w4.heap.size w4).alloc (Nat.le_refl _) (.cells #[.int .i64 h0, .int .i64 l0, .slice (some ⟨g0, 0, none⟩) z0.length z0.length] 31)
  have ha : Boxes (w4.alloc (.cells #[.int .i64 h0, .int .i64 l0, .slice (some ⟨g0, 0, none⟩) z0.length z0.length] 31)) w4.heap.size 31 #[.int .i64 h0, .int .i64 l0, .slice (some ⟨g0, 0, none⟩) z0.length z0.length] := World.alloc_heap_new w4 _
  generalize w4.alloc (.cells #[.int .i64 h0, .int .i64 l0, .slice (some ⟨g0, 0, none⟩) z0.length z0.length] 31) = y0 at *
  replace E := Lib.hid (chain E.out hb)
  replace X0 := Lib.hid (X0.out.step hb)
  have PX0 := Lib.hid ha
  clear hb ha
  generalize w4.heap.size = px0 at *
  refine (HIM.out _ _ y0 X0.out.rows S0.out).mono ?_
  rintro e w5 ⟨⟨vg, us, rfl, hown⟩, hb⟩
  obtain ⟨ag, cg, rfl⟩ := hown.form
  obtain ⟨bs, hbs⟩ : ∃ b, y0.heap.size = b := ⟨_, rfl⟩
  have HBS := Lib.hid (show v4.heap.size ≤ bs by have := G0.out; omega)
  have HQ := Lib.hid (show bs ≤ w5.heap.size by have := hb.size; omega)
  replace E := Lib.hid (chain E.out hb)
  replace X0 := Lib.hid (X0.out.step hb)
  replace PX0 := Lib.hid (PX0.out.step hb)
  rw [hbs] at hown
  rw [hbs] at G0
  have G := Lib.hid hown
  clear hb hown hbs
  have B0c0 := (B0.out.step E.out).m0
  have B0c1 := (B0.out.step E.out).m1
  have B0c2 := (B0.out.step E.out).m2
  have B0lt := (B0.out.step E.out).lt
  have Ac0 := (A.out.step E.out).m0
  have Ac1 := (A.out.step E.out).m1
  have Ac2 := (A.out.step E.out).m2
  have Alt := (A.out.step E.out).lt
  have PX0c0 := (PX0.out).m0
  have PX0c1 := (PX0.out).m1
  have PX0c2 := (PX0.out).m2
  have PX0lt := (PX0.out).lt
  go_wp2_with fail
  clear B0c0 B0c1 B0c2 B0lt Ac0 Ac1 Ac2 Alt PX0c0 PX0c1 PX0c2 PX0lt
  have hb := (Below.refl w5.heap.size w5).alloc (Nat.le_refl _) (.cells #[.int .i64 rh, .int .i64 rk, .slice ag rz.length cg] 31)
  have ha : Boxes (w5.alloc (.cells #[.int .i64 rh, .int .i64 rk, .slice ag rz.length cg] 31)) w5.heap.size 31 #[.int .i64 rh, .int .i64 rk, .slice ag rz.length cg] := World.alloc_heap_new w5 _
  generalize w5.alloc (.cells #[.int .i64 rh, .int .i64 rk, .slice ag rz.length cg] 31) = v7 at *
  replace E := Lib.hid (chain E.out hb)
  replace X0 := Lib.hid (X0.out.step hb)
  replace PX0 := Lib.hid (PX0.out.step hb)
  replace G := Lib.hid (G.out.step hb)
  have GB := Lib.hid ha
  clear hb ha
  generalize w5.heap.size = qg at *
  refine (eqMatrix_same rh rk ag a rz cg c _ G.out.rows2v (W0.out.step E.out) HSM.out.lens.1 HSM.out.lens.2).mono ?_
  rintro e w6 ⟨rfl, hb⟩
  replace E := Lib.hid (chain E.out hb)
  replace X0 := Lib.hid (X0.out.step hb)
  replace PX0 := Lib.hid (PX0.out.step hb)
  replace G := Lib.hid (G.out.step hb)
  replace GB := Lib.hid (GB.out.step hb)
  clear hb
  have K : Carry v4 g0 z0 px0 h0 l0 bs ag cg us rz qg rh rk _ := ⟨E.out, X0.out, PX0.out, G.out, GB.out⟩
  have B0c0 := (B0.out.step E.out).m0
  have B0c1 := (B0.out.step E.out).m1
  have B0c2 := (B0.out.step E.out).m2
  have B0lt := (B0.out.step E.out).lt
  have PX0c0 := (PX0.out).m0
  have PX0c1 := (PX0.out).m1
  have PX0c2 := (PX0.out).m2
  have PX0lt := (PX0.out).lt
  go_wp2_with fail
  go_region_held3 (fun w' => w'.cell? ⟨w.heap.size, 0, none⟩ = some (.int .i64 h0) ∧ w'.cell? ⟨w.heap.size, 1, none⟩ = some (.int .i64 l0) ∧ w'.cell? ⟨w.heap.size, 2, none⟩ = some (.slice a0 z0.length c0) ∧ w'.cell? ⟨px0, 0, none⟩ = some (.int .i64 h0) ∧ w'.cell? ⟨px0, 1, none⟩ = some (.int .i64 l0) ∧ w'.cell? ⟨px0, 2, none⟩ = some (.slice (some ⟨g0, 0, none⟩) z0.length z0.length) ∧ Carry v4 g0 z0 px0 h0 l0 bs ag cg us rz qg rh rk w') (first | exact ⟨cell_step (drew_step _) B0c0, cell_step (drew_step _) B0c1, cell_step (drew_step _) B0c2, cell_step (drew_step _) PX0c0, cell_step (drew_step _) PX0c1, cell_step (drew_step _) PX0c2, K.step (drew_step _)⟩ | exact keep6 hb (fun k => k.step hb) (by assumption)) (first | (go_at_call 27; obtain ⟨_, _, _, _, _, _, KK⟩ := ‹_ ∧ _ ∧ _ ∧ _ ∧ _ ∧ _ ∧ Carry v4 g0 z0 px0 h0 l0 bs ag cg us rz qg rh rk _›; refine (toMatrix_any h0 l0 a0 z0 c0 _ (R0.out.step KK.e) S0.out).mono ?_; rintro e wf ⟨rfl, -, hof, hb⟩; have hx1 := KK.x0.step hb; clear KK) | (go_at_call 29; refine (eqMatrix_same h0 l0 _ _ z0 _ _ _ hx1.rows hof.rows S0.out.lens.1 S0.out.lens.2).mono ?_; rintro e w9 ⟨rfl, hb⟩))
  clear B0c0 B0c1 B0c2 B0lt PX0c0 PX0c1 PX0c2 PX0lt K hb hx1 hof
  obtain ⟨-, -, -, -, -, -, K⟩ := ‹_ ∧ _ ∧ _ ∧ _ ∧ _ ∧ _ ∧ Carry v4 g0 z0 px0 h0 l0 bs ag cg us rz qg rh rk _›
  replace E := Lib.hid K.e
  replace X0 := Lib.hid K.x0
  replace PX0 := Lib.hid K.b0
  replace G := Lib.hid K.g
  replace GB := Lib.hid K.gb
  clear K
  have B0c0 := (B0.out.step E.out).m0
  have B0c1 := (B0.out.step E.out).m1
  have B0c2 := (B0.out.step E.out).m2
  have B0lt := (B0.out.step E.out).lt
  have Ac0 := (A.out.step E.out).m0
  have Ac1 := (A.out.step E.out).m1
  have Ac2 := (A.out.step E.out).m2
  have Alt := (A.out.step E.out).lt
  have PX0c0 := (PX0.out).m0
  have PX0c1 := (PX0.out).m1
  have PX0c2 := (PX0.out).m2
  have PX0lt := (PX0.out).lt
  have GBc0 := (GB.out).m0
  have GBc1 := (GB.out).m1
  have GBc2 := (GB.out).m2
  have GBlt := (GB.out).lt
  go_wp2_with fail
  clear B0c0 B0c1 B0c2 B0lt Ac0 Ac1 Ac2 Alt PX0c0 PX0c1 PX0c2 PX0lt GBc0 GBc1 GBc2 GBlt
  refine (markMatrix_any h0 l0 g0 _ z0 1 _ X0.out S0.out (by omega) (by omega)).mono ?_
  rintro e w7 ⟨⟨k0, hk0, rfl⟩, ht⟩
  have hgl := Nat.le_of_lt X0.out.top.lt
  replace E := Lib.hid (E.out.trans (ht.below G0.out.1 hgl))
  have hhi : g0 + 1 + z0.length ≤ bs := by have := G0.out.2; omega
  replace G := Lib.hid (Own.touch ht G.out hhi)
  replace GB := Lib.hid (GB.out.touch ht (by have := HQ.out; omega))
  clear ht hgl hhi
  clear X0
  clear PX0
  have Ac0 := (A.out.step E.out).m0
  have Ac1 := (A.out.step E.out).m1
  have Ac2 := (A.out.step E.out).m2
  have Alt := (A.out.step E.out).lt
  have GBc0 := (GB.out).m0
  have GBc1 := (GB.out).m1
  have GBc2 := (GB.out).m2
  have GBlt := (GB.out).lt
  go_wp2_with fail
  clear Ac0 Ac1 Ac2 Alt GBc0 GBc1 GBc2 GBlt
  refine (eqMatrix_same rh rk ag a rz cg c _ G.out.rows2v (W0.out.step E.out) HSM.out.lens.1 HSM.out.lens.2).mono ?_
  rintro e w8 ⟨rfl, hb⟩
  replace E := Lib.hid (chain E.out hb)
  replace G := Lib.hid (G.out.step hb)
  replace GB := Lib.hid (GB.out.step hb)
  clear hb
  have GBc0 := (GB.out).m0
  have GBc1 := (GB.out).m1
  have GBc2 := (GB.out).m2
  have GBlt := (GB.out).lt
  go_wp2_with fail
  clear GBc0 GBc1 GBc2 GBlt
  refine (markMatO_any rh rk _ us rz bs 1 _ G.out HSM.out (by omega) (by omega) (Nat.le_trans HQ.out (Nat.le_of_lt GB.out.lt))).mono ?_
  rintro e w9 ⟨rfl, hown, hb, hsz, hkt⟩
  replace E := Lib.hid (E.out.trans (hb.mono HBS.out))
  replace G := Lib.hid hown
  replace GB := Lib.hid (GB.out.keeps hkt (by decide))
  clear hown hb hsz hkt
  have t2 : ((1 : Int) + total rz != (1 : Int) + total rz) = false := by simp
  have GBc0 := (GB.out).m0
  have GBc1 := (GB.out).m1
  have GBc2 := (GB.out).m2
  have GBlt := (GB.out).lt
  go_wp2_with fail
  clear GBc0 GBc1 GBc2 GBlt
  refine (heldMatO_any rh rk ag cg rz 1 _ G.out.rows2m HSM.out (by omega) (by omega)).mono ?_
  rintro e w10 ⟨rfl, hb⟩
  replace E := Lib.hid (chain E.out hb)
  replace G := Lib.hid (G.out.step hb)
  replace GB := Lib.hid (GB.out.step hb)
  clear hb
  have B0c0 := (B0.out.step E.out).m0
  have B0c1 := (B0.out.step E.out).m1
  have B0c2 := (B0.out.step E.out).m2
  have B0lt := (B0.out.step E.out).lt
  go_wp2_with fail
  clear B0c0 B0c1 B0c2 B0lt
  refine (toMatrix_any h0 l0 a0 z0 c0 _ (R0.out.step E.out) S0.out).mono ?_
  rintro e w11 ⟨rfl, hz, hrow, hb⟩
  replace E := Lib.hid (chain E.out hb)
  replace G := Lib.hid (G.out.step hb)
  replace GB := Lib.hid (GB.out.step hb)
  have M0 := Lib.hid (hrow.rows)
  clear hb hrow hz
  have B0c0 := (B0.out.step E.out).m0
  have B0c1 := (B0.out.step E.out).m1
  have B0c2 := (B0.out.step E.out).m2
  have B0lt := (B0.out.step E.out).lt
  have Ac0 := (A.out.step E.out).m0
  have Ac1 := (A.out.step E.out).m1
  have Ac2 := (A.out.step E.out).m2
  have Alt := (A.out.step E.out).lt
  have GBc0 := (GB.out).m0
  have GBc1 := (GB.out).m1
  have GBc2 := (GB.out).m2
  have GBlt := (GB.out).lt
  go_wp2_with fail
  clear B0c0 B0c1 B0c2 B0lt Ac0 Ac1 Ac2 Alt GBc0 GBc1 GBc2 GBlt
  refine (HIM.out _ _ _ M0.out S0.out).mono ?_
  rintro e w12 ⟨⟨vh, uh, rfl, hown⟩, hb⟩
  obtain ⟨ah, ch, rfl⟩ := hown.form
  replace E := Lib.hid (chain E.out hb)
  replace G := Lib.hid (G.out.step hb)
  replace GB := Lib.hid (GB.out.step hb)
  have H := Lib.hid hown
  clear hb hown M0
  have B0c0 := (B0.out.step E.out).m0
  have B0c1 := (B0.out.step E.out).m1
  have B0c2 := (B0.out.step E.out).m2
  have B0lt := (B0.out.step E.out).lt
  have Ac0 := (A.out.step E.out).m0
  have Ac1 := (A.out.step E.out).m1
  have Ac2 := (A.out.step E.out).m2
  have Alt := (A.out.step E.out).lt
  have GBc0 := (GB.out).m0
  have GBc1 := (GB.out).m1
  have GBc2 := (GB.out).m2
  have GBlt := (GB.out).lt
  go_wp2_with fail
  clear B0c0 B0c1 B0c2 B0lt Ac0 Ac1 Ac2 Alt GBc0 GBc1 GBc2 GBlt
  have hb := (Below.refl w12.heap.size w12).alloc (Nat.le_refl _) (.cells #[.int .i64 rh, .int .i64 rk, .slice ah rz.length ch] 31)
  have ha : Boxes (w12.alloc (.cells #[.int .i64 rh, .int .i64 rk, .slice ah rz.length ch] 31)) w12.heap.size 31 #[.int .i64 rh, .int .i64 rk, .slice ah rz.length ch] := World.alloc_heap_new w12 _
  generalize w12.alloc (.cells #[.int .i64 rh, .int .i64 rk, .slice ah rz.length ch] 31) = v9 at *
  replace E := Lib.hid (chain E.out hb)
  replace G := Lib.hid (G.out.step hb)
  replace GB := Lib.hid (GB.out.step hb)
  replace H := Lib.hid (H.out.step hb)
  have HB := Lib.hid ha
  clear hb ha
  generalize w12.heap.size = qh at *
  refine (eqMatrix_same rh rk ah a rz ch c _ H.out.rows2v (W0.out.step E.out) HSM.out.lens.1 HSM.out.lens.2).mono ?_
  rintro e w13 ⟨rfl, hb⟩
  replace E := Lib.hid (chain E.out hb)
  replace G := Lib.hid (G.out.step hb)
  replace GB := Lib.hid (GB.out.step hb)
  replace H := Lib.hid (H.out.step hb)
  clear hb
  clear H HB
  have GBc0 := (GB.out).m0
  have GBc1 := (GB.out).m1
  have GBc2 := (GB.out).m2
  have GBlt := (GB.out).lt
  go_wp2_with fail
  clear GBc0 GBc1 GBc2 GBlt
  refine (heldMatO_any rh rk ag cg rz 1 _ G.out.rows2m HSM.out (by omega) (by omega)).mono ?_
  rintro e w14 ⟨rfl, hb⟩
  replace E := Lib.hid (chain E.out hb)
  replace G := Lib.hid (G.out.step hb)
  replace GB := Lib.hid (GB.out.step hb)
  clear hb
  go_wp2_with fail
  go_ret
  exact ⟨rfl, D.out.trans (E.out.mono D.out.size)⟩
end Inv
end Go.Proofs.Ytekhjoenejgmaaa

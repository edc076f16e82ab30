/- The walk of 'laws.FnExactAddRanks', from what the two functions give. -/
import Derived.Test.YtdfggbojccfblaaRam
import Derived.Test.YtdfggbojccfblaaRai
import Derived.Test.YtdfggbojccfblaaAll3
import Derived.Deep.RegionHeld3
import Derived.Deep.CutRange
namespace Go.Proofs.Ytdfggbojccfblaa
open Go.ChangeShapes Go.WideShapes Go.ChangeAt Go.RowKit Go.Deep
set_option linter.unusedVariables false
namespace AddRanks

/-- What is carried over the second half. -/
structure Carry (v4 : World) (g0 : Nat) (z0 : List Int) (px0 : Nat) (h0 : Int) (l0 : Int) (g1 : Nat) (z1 : List Int) (px1 : Nat) (h1 : Int) (l1 : Int) (bs : Nat) (ag : Option Addr) (cg : Nat) (rz : List Int) (qg : Nat) (rh : Int) (rk : Int) (W : World) : Prop where
  e : Below v4.heap.size v4 W
  x0 : OwnI W g0 (.slice (some ⟨g0, 0, none⟩) z0.length z0.length) z0
  b0 : Boxes W px0 27 #[.int .i64 h0, .int .i64 l0, .slice (some ⟨g0, 0, none⟩) z0.length z0.length]
  x1 : OwnI W g1 (.slice (some ⟨g1, 0, none⟩) z1.length z1.length) z1
  b1 : Boxes W px1 27 #[.int .i64 h1, .int .i64 l1, .slice (some ⟨g1, 0, none⟩) z1.length z1.length]
  g : OwnI W bs (.slice ag rz.length cg) rz
  gb : Boxes W qg 27 #[.int .i64 rh, .int .i64 rk, .slice ag rz.length cg]
/-- A box that has been laid behind a world. -/
structure NewB (w2 W : World) (q : Nat) (t : TypeId) (vs : Array Value) : Prop where
  lo : w2.heap.size ≤ q
  bx : Boxes W q t vs
theorem NewB.step {w2 W W' : World} {q : Nat} {t : TypeId} {vs : Array Value} (hb : Below W.heap.size W W') (k : NewB w2 W q t vs) : NewB w2 W' q t vs := ⟨k.lo, k.bx.step hb⟩
theorem newb_kept {w2 w w' : World} {t : TypeId} {vs : Array Value} (hE : Below w2.heap.size w2 w) (hb : Below (w.alloc (.cells vs t)).heap.size (w.alloc (.cells vs t)) w') : NewB w2 w' w.heap.size t vs := ⟨hE.size, Boxes.step (World.alloc_heap_new w _) hb⟩
theorem newb_kept2 {w w' : World} {t : TypeId} {vs : Array Value} (hb : Below (w.alloc (.cells vs t)).drew.heap.size (w.alloc (.cells vs t)).drew w') : NewB w w' w.heap.size t vs := ⟨Nat.le_refl _, Boxes.step (Boxes.step (World.alloc_heap_new w _) (drew_step _)) hb⟩
theorem NewB.zero {w2 w : World} {t : TypeId} {vs : Array Value} (hE : Below w2.heap.size w2 w) : NewB w2 (w.alloc (.cells vs t)) w.heap.size t vs := ⟨hE.size, World.alloc_heap_new w _⟩
theorem alloc_step (w : World) (o : Obj) : Below w.heap.size w (w.alloc o) := (Below.refl _ _).alloc (Nat.le_refl _) o

theorem Carry.step {v4 : World} {g0 : Nat} {z0 : List Int} {px0 : Nat} {h0 : Int} {l0 : Int} {g1 : Nat} {z1 : List Int} {px1 : Nat} {h1 : Int} {l1 : Int} {bs : Nat} {ag : Option Addr} {cg : Nat} {rz : List Int} {qg : Nat} {rh : Int} {rk : Int} {W W' : World} (hb : Below W.heap.size W W') (k : Carry v4 g0 z0 px0 h0 l0 g1 z1 px1 h1 l1 bs ag cg rz qg rh rk W) : Carry v4 g0 z0 px0 h0 l0 g1 z1 px1 h1 l1 bs ag cg rz qg rh rk W' := ⟨chain k.e hb, k.x0.step hb, k.b0.step hb, k.x1.step hb, k.b1.step hb, k.g.step hb, k.gb.step hb⟩
theorem keep6 {w w' : World} {p1 p2 p3 p4 p5 p6 : Addr} {u1 u2 u3 u4 u5 u6 : Value} {C : World → Prop} (hb : Below w.heap.size w w') (hC : C w → C w') (h : w.cell? p1 = some u1 ∧ w.cell? p2 = some u2 ∧ w.cell? p3 = some u3 ∧ w.cell? p4 = some u4 ∧ w.cell? p5 = some u5 ∧ w.cell? p6 = some u6 ∧ C w) : w'.cell? p1 = some u1 ∧ w'.cell? p2 = some u2 ∧ w'.cell? p3 = some u3 ∧ w'.cell? p4 = some u4 ∧ w'.cell? p5 = some u5 ∧ w'.cell? p6 = some u6 ∧ C w' :=
  ⟨cell_step hb h.1, cell_step hb h.2.1, cell_step hb h.2.2.1, cell_step hb h.2.2.2.1, cell_step hb h.2.2.2.2.1, cell_step hb h.2.2.2.2.2.1, hC h.2.2.2.2.2.2⟩

set_option maxHeartbeats 4000000 in
set_option maxRecDepth 100000 in
theorem law_of (h0 l0 : Int) (a0 : Option Addr) (z0 : List Int) (c0 : Nat) (h1 l1 : Int) (a1 : Option Addr) (z1 : List Int) (c1 : Nat) (rh rk : Int) (rz : List Int) (rc : Int) (w : World) (hr0 : Ints w a0 z0) (hl0 : LenI z0) (wfh0 : (Lit.int .i64 h0).wf = true) (wfl0 : (Lit.int .i64 l0).wf = true) (hr1 : Ints w a1 z1) (hl1 : LenI z1) (wfh1 : (Lit.int .i64 h1).wf = true) (wfl1 : (Lit.int .i64 l1).wf = true)
    
    (hS : ∀ (b0 : Option Addr) (d0 : Nat) (b1 : Option Addr) (d1 : Nat) (W : World), Ints W b0 z0 → SmI z0 → Ints W b1 z1 → SmI z1 → Calls Try.prog 23 #[.agg #[.int .i64 h0, .int .i64 l0, .slice b0 z0.length d0], .agg #[.int .i64 h1, .int .i64 l1, .slice b1 z1.length d1]] W (GivesKY W rh rk rz rc))
    (hI : ∀ (b0 : Option Addr) (d0 : Nat) (b1 : Option Addr) (d1 : Nat) (W : World), Ints W b0 z0 → SmI z0 → Ints W b1 z1 → SmI z1 → Calls Try.prog 24 #[.agg #[.int .i64 h0, .int .i64 l0, .slice b0 z0.length d0], .agg #[.int .i64 h1, .int .i64 l1, .slice b1 z1.length d1]] W (GivesKY W rh rk rz rc))
    (hsm : SmI rz) :
    Calls Try.prog 7 #[.agg #[.int .i64 h0, .int .i64 l0, .slice a0 z0.length c0], .agg #[.int .i64 h1, .int .i64 l1, .slice a1 z1.length c1]] w fun e w' => e = .returned (.bool true) ∧ Below w.heap.size w w' := by
  have HSP := Lib.hid hS
  have HIM := Lib.hid hI
  clear hS hI
  have HSM := Lib.hid hsm
  have hnz : rz.length ≤ 1048576 := hsm.1
  clear hsm
  have D := Lib.hid (Below.refl w.heap.size w)
  have R0 := Lib.hid hr0
  clear hr0
  have L0 := Lib.hid hl0
  clear hl0
  have R1 := Lib.hid hr1
  clear hr1
  have L1 := Lib.hid hl1
  clear hl1
  go_enter Try.func7, Try.ntmps7
  go_wp2_with fail
  have hb := (Below.refl (w).heap.size (w)).alloc (Nat.le_refl _) (.cells #[.int .i64 h0, .int .i64 l0, .slice a0 z0.length c0] 24)
  have ha0 : Boxes ((w).alloc (.cells #[.int .i64 h0, .int .i64 l0, .slice a0 z0.length c0] 24)) (w).heap.size 24 #[.int .i64 h0, .int .i64 l0, .slice a0 z0.length c0] := World.alloc_heap_new _ _
  replace D := Lib.hid (chain D.out hb)
  replace R0 := Lib.hid (R0.out.step hb)
  replace R1 := Lib.hid (R1.out.step hb)
  clear hb
  have hb := (Below.refl ((w).alloc (.cells #[.int .i64 h0, .int .i64 l0, .slice a0 z0.length c0] 24)).heap.size ((w).alloc (.cells #[.int .i64 h0, .int .i64 l0, .slice a0 z0.length c0] 24))).alloc (Nat.le_refl _) (.cells #[.int .i64 h1, .int .i64 l1, .slice a1 z1.length c1] 24)
  have ha1 : Boxes (((w).alloc (.cells #[.int .i64 h0, .int .i64 l0, .slice a0 z0.length c0] 24)).alloc (.cells #[.int .i64 h1, .int .i64 l1, .slice a1 z1.length c1] 24)) ((w).alloc (.cells #[.int .i64 h0, .int .i64 l0, .slice a0 z0.length c0] 24)).heap.size 24 #[.int .i64 h1, .int .i64 l1, .slice a1 z1.length c1] := World.alloc_heap_new _ _
  replace ha0 := ha0.step hb
  replace D := Lib.hid (chain D.out hb)
  replace R0 := Lib.hid (R0.out.step hb)
  replace R1 := Lib.hid (R1.out.step hb)
  clear hb
  simp only [World.size_alloc] at ha0 ha1
  generalize hv1 : ((w).alloc (.cells #[.int .i64 h0, .int .i64 l0, .slice a0 z0.length c0] 24)).alloc (.cells #[.int .i64 h1, .int .i64 l1, .slice a1 z1.length c1] 24) = v1 at *
  have B0 := Lib.hid ha0
  clear ha0
  have B1 := Lib.hid ha1
  clear ha1
  clear hv1
  refine (szRanks2_any h0 l0 a0 z0 c0 1048576 _ R0.out (by omega) (by omega) L0.out).mono ?_
  rintro e w1 ⟨⟨u0, hu0, rfl⟩, hb⟩
  replace D := Lib.hid (chain D.out hb)
  replace R0 := Lib.hid (R0.out.step hb)
  replace R1 := Lib.hid (R1.out.step hb)
  replace B0 := Lib.hid (B0.out.step hb)
  replace B1 := Lib.hid (B1.out.step hb)
  clear hb
  rcases hu0 with rfl | ⟨hu00, hut0, hu01, hsm0⟩
  · go_wp2_with fail
    go_ret
    exact ⟨rfl, D.out⟩
  have S0 := Lib.hid hsm0
  have hz0 : z0.length ≤ 1048576 := hsm0.1
  clear hsm0
  have TT0 := Lib.hid hut0
  clear hut0
  have B0c0 := (B0.out).m0
  have B0c1 := (B0.out).m1
  have B0c2 := (B0.out).m2
  have B0lt := (B0.out).lt
  have B1c0 := (B1.out).m0
  have B1c1 := (B1.out).m1
  have B1c2 := (B1.out).m2
  have B1lt := (B1.out).lt
  go_wp2_with fail
  clear B0c0 B0c1 B0c2 B0lt B1c0 B1c1 B1c2 B1lt
  refine (szRanks2_any h1 l1 a1 z1 c1 u0 _ R1.out (by omega) (by omega) L1.out).mono ?_
  rintro e w2 ⟨⟨u1, hu1, rfl⟩, hb⟩
  replace D := Lib.hid (chain D.out hb)
  replace R0 := Lib.hid (R0.out.step hb)
  replace R1 := Lib.hid (R1.out.step hb)
  replace B0 := Lib.hid (B0.out.step hb)
  replace B1 := Lib.hid (B1.out.step hb)
  clear hb
  rcases hu1 with rfl | ⟨hu10, hut1, hu11, hsm1⟩
  · go_wp2_with fail
    go_ret
    exact ⟨rfl, D.out⟩
  have S1 := Lib.hid hsm1
  have hz1 : z1.length ≤ 1048576 := hsm1.1
  clear hsm1
  have TT1 := Lib.hid hut1
  clear hut1
  have B0c0 := (B0.out).m0
  have B0c1 := (B0.out).m1
  have B0c2 := (B0.out).m2
  have B0lt := (B0.out).lt
  have B1c0 := (B1.out).m0
  have B1c1 := (B1.out).m1
  have B1c2 := (B1.out).m2
  have B1lt := (B1.out).lt
  go_wp2_with fail
  clear B0c0 B0c1 B0c2 B0lt B1c0 B1c1 B1c2 B1lt
  have B0c0 := (B0.out).m0
  have B0c1 := (B0.out).m1
  have B0c2 := (B0.out).m2
  have B0lt := (B0.out).lt
  have B1c0 := (B1.out).m0
  have B1c1 := (B1.out).m1
  have B1c2 := (B1.out).m2
  have B1lt := (B1.out).lt
  have MK := Lib.hid (show ∀ w' : World, Below w2.heap.size w2 w' → Below w2.heap.size w2 w' ∧ w'.cell? ⟨w.heap.size, 0, none⟩ = some (.int .i64 h0) ∧ w'.cell? ⟨w.heap.size, 1, none⟩ = some (.int .i64 l0) ∧ w'.cell? ⟨w.heap.size, 2, none⟩ = some (.slice a0 z0.length c0) ∧ w'.cell? ⟨w.heap.size + 1, 0, none⟩ = some (.int .i64 h1) ∧ w'.cell? ⟨w.heap.size + 1, 1, none⟩ = some (.int .i64 l1) ∧ w'.cell? ⟨w.heap.size + 1, 2, none⟩ = some (.slice a1 z1.length c1) from fun w' h => ⟨h, cell_step h B0c0, cell_step h B0c1, cell_step h B0c2, cell_step h B1c0, cell_step h B1c1, cell_step h B1c2⟩)
  go_cut [6, 7] from 27 to 34 (fun s6 s7 wr => ∃ (qz : Nat) (az : Option Addr) (cz : Nat), s6 = .pointer (some ⟨qz, 0, none⟩) ∧ s7 = .int .i64 rc ∧ Boxes wr qz 27 #[.int .i64 rh, .int .i64 rk, .slice az rz.length cz] ∧ Ints wr az rz ∧ Below w2.heap.size w2 wr)
  case first =>
    go_region_held3 (fun w' => Below w2.heap.size w2 w' ∧ w'.cell? ⟨w.heap.size, 0, none⟩ = some (.int .i64 h0) ∧ w'.cell? ⟨w.heap.size, 1, none⟩ = some (.int .i64 l0) ∧ w'.cell? ⟨w.heap.size, 2, none⟩ = some (.slice a0 z0.length c0) ∧ w'.cell? ⟨w.heap.size + 1, 0, none⟩ = some (.int .i64 h1) ∧ w'.cell? ⟨w.heap.size + 1, 1, none⟩ = some (.int .i64 l1) ∧ w'.cell? ⟨w.heap.size + 1, 2, none⟩ = some (.slice a1 z1.length c1)) (first | exact MK.out _ (drew_step _) | exact MK.out _ (alloc_step _ _).drew | exact MK.out _ (chain (‹Below w2.heap.size w2 _ ∧ _›).1 hb) | exact MK.out _ ((‹Below w2.heap.size w2 _ ∧ _›).1.alloc (‹Below w2.heap.size w2 _ ∧ _›).1.size _) | exact MK.out _ (((((‹Below w2.heap.size w2 _ ∧ _›).1).setCell nb.lo _).setCell nb.lo _).setCell nb.lo _) | exact MK.out _ (KS.alloc KS.size _) | exact MK.out _ (((((‹Below w2.heap.size w2 _ ∧ _›).1).setCell KS.size _).setCell KS.size _).setCell KS.size _) | fail) (first | (go_at_call_of 12 h0; have KK := (‹Below w2.heap.size w2 _ ∧ _›).1; refine (toRanks_any h0 l0 a0 z0 c0 _ (R0.out.step KK) S0.out).mono ?_; rintro e wf0 ⟨rfl, -, hof0, hb⟩; have EW0 := chain KK hb; clear KK; (try simp only [World.size_drew] at hof0); (try simp only [World.size_alloc] at hof0); (first | (have nb := newb_kept2 hb) | (have nb := newb_kept (drew_step _) hb) | (have nb := newb_kept EW0 hb) | (have nb := newb_kept EW1 hb) | (replace nb := nb.step hb) | skip); (try (have bq0 := nb.bx.m0; have bf0 := nb.bx.frozen 0; have bq1 := nb.bx.m1; have bf1 := nb.bx.frozen 1; have bq2 := nb.bx.m2; have bf2 := nb.bx.frozen 2))) | (go_at_call_of 12 h1; have KK := (‹Below w2.heap.size w2 _ ∧ _›).1; refine (toRanks_any h1 l1 a1 z1 c1 _ (R1.out.step KK) S1.out).mono ?_; rintro e wf1 ⟨rfl, -, hof1, hb⟩; have EW1 := chain KK hb; clear KK; (try simp only [World.size_drew] at hof1); (try simp only [World.size_alloc] at hof1); (first | (have nb := newb_kept2 hb) | (have nb := newb_kept (drew_step _) hb) | (have nb := newb_kept EW0 hb) | (have nb := newb_kept EW1 hb) | (replace nb := nb.step hb) | skip); (try (have bq0 := nb.bx.m0; have bf0 := nb.bx.frozen 0; have bq1 := nb.bx.m1; have bf1 := nb.bx.frozen 1; have bq2 := nb.bx.m2; have bf2 := nb.bx.frozen 2))) | (go_at_call 23; (try have hql := nb.bx.lt); have KK := (‹Below w2.heap.size w2 _ ∧ _›).1; refine (HSP.out _ _ _ _ _ ?_ S0.out ?_ S1.out).mono ?_; (first | exact hof0.rows | exact hof0.rows.step hb | exact hof0.rows.step (alloc_step _ _) | exact (hof0.rows.step hb).step (alloc_step _ _) | exact (hof0.rows.step (alloc_step _ _)).step hb); (first | exact hof1.rows | exact hof1.rows.step hb | exact hof1.rows.step (alloc_step _ _) | exact (hof1.rows.step hb).step (alloc_step _ _) | exact (hof1.rows.step (alloc_step _ _)).step hb); rintro e ws ⟨⟨vh, rfl, hownh⟩, hb⟩; obtain ⟨az, cz, rfl⟩ := hownh.form; have hz0 := hownh; clear hownh; have KS := chain KK hb; clear KK; (first | (have nb := newb_kept2 hb) | (have nb := newb_kept (drew_step _) hb) | (have nb := newb_kept EW0 hb) | (have nb := newb_kept EW1 hb) | (replace nb := nb.step hb) | skip); (try (have bq0 := nb.bx.m0; have bf0 := nb.bx.frozen 0; have bq1 := nb.bx.m1; have bf1 := nb.bx.frozen 1; have bq2 := nb.bx.m2; have bf2 := nb.bx.frozen 2))))
    all_goals (have KF := (‹Below w2.heap.size w2 _ ∧ _›).1; go_wp2_with fail; go_meet; first | exact ⟨_, _, _, rfl, rfl, World.alloc_heap_new ws _, hz0.rows2v.step (alloc_step _ _), KF⟩ | exact ⟨_, _, _, rfl, rfl, nb.bx.all3 _ _ _, ((((hz0).setCell2 (p := ⟨_, 0, none⟩) (by first | exact hql | simp) _).setCell2 (p := ⟨_, 1, none⟩) (by first | exact hql | simp) _).setCell2 (p := ⟨_, 2, none⟩) (by first | exact hql | simp) _).rows2v, KF⟩)
  case rest =>
  clear MK B0c0 B0c1 B0c2 B0lt B1c0 B1c1 B1c2 B1lt
  obtain ⟨qz, az, cz, rfl, rfl, hbx, hrz, hb⟩ := hcut
  obtain ⟨w3, hwn⟩ : ∃ W : World, W = wc := ⟨_, rfl⟩
  subst hwn
  replace D := Lib.hid (chain D.out hb)
  replace R0 := Lib.hid (R0.out.step hb)
  replace R1 := Lib.hid (R1.out.step hb)
  replace B0 := Lib.hid (B0.out.step hb)
  replace B1 := Lib.hid (B1.out.step hb)
  clear hb
  have A := Lib.hid hbx
  have W0 := Lib.hid hrz
  clear hbx hrz
  generalize w3 = v4 at *
  have E := Lib.hid (Below.refl v4.heap.size v4)
  generalize qz = qa at *
  generalize az = a at *
  generalize cz = c at *
  have B0c0 := (B0.out.step E.out).m0
  have B0c1 := (B0.out.step E.out).m1
  have B0c2 := (B0.out.step E.out).m2
  have B0lt := (B0.out.step E.out).lt
  have B1c0 := (B1.out.step E.out).m0
  have B1c1 := (B1.out.step E.out).m1
  have B1c2 := (B1.out.step E.out).m2
  have B1lt := (B1.out.step E.out).lt
  have Ac0 := (A.out.step E.out).m0
  have Ac1 := (A.out.step E.out).m1
  have Ac2 := (A.out.step E.out).m2
  have Alt := (A.out.step E.out).lt
  go_wp2_with fail
  clear B0c0 B0c1 B0c2 B0lt B1c0 B1c1 B1c2 B1lt Ac0 Ac1 Ac2 Alt
  refine (toRanks_any h0 l0 a0 z0 c0 _ (R0.out.step E.out) S0.out).mono ?_
  rintro e w4 ⟨rfl, hz, hrow, hb⟩
  obtain ⟨g0, hg0⟩ : ∃ g, v4.heap.size + 3 = g := ⟨_, rfl⟩
  rw [hg0] at hrow ⊢
  have hlo : v4.heap.size ≤ g0 := by omega
  replace E := Lib.hid (chain E.out hb)
  have X0 := Lib.hid hrow
  have G0 := Lib.hid (show v4.heap.size ≤ g0 ∧ g0 + 1 ≤ w4.heap.size from ⟨hlo, by omega⟩)
  clear hb hrow hz hg0 hlo
  have B0c0 := (B0.out.step E.out).m0
  have B0c1 := (B0.out.step E.out).m1
  have B0c2 := (B0.out.step E.out).m2
  have B0lt := (B0.out.step E.out).lt
  have B1c0 := (B1.out.step E.out).m0
  have B1c1 := (B1.out.step E.out).m1
  have B1c2 := (B1.out.step E.out).m2
  have B1lt := (B1.out.step E.out).lt
  have Ac0 := (A.out.step E.out).m0
  have Ac1 := (A.out.step E.out).m1
  have Ac2 := (A.out.step E.out).m2
  have Alt := (A.out.step E.out).lt
  go_wp2_with fail
  clear B0c0 B0c1 B0c2 B0lt B1c0 B1c1 B1c2 B1lt Ac0 Ac1 Ac2 Alt
  have hsz : w4.heap.size ≤ (w4.alloc (.cells #[.int .i64 h0, .int .i64 l0, .slice (some ⟨g0, 0, none⟩) z0.length z0.length] 27)).heap.size := by simp
  replace G0 := Lib.hid (show v4.heap.size ≤ g0 ∧ g0 + 1 ≤ (w4.alloc (.cells #[.int .i64 h0, .int .i64 l0, .slice (some ⟨g0, 0, none⟩) z0.length z0.length] 27)).heap.size from ⟨G0.out.1, Nat.le_trans G0.out.2 hsz⟩)
  have HPX0 := Lib.hid (show v4.heap.size ≤ w4.heap.size from E.out.size)
  clear hsz
  have hb := (Below.refl w4.heap.size w4).alloc (Nat.le_refl _) (.cells #[.int .i64 h0, .int .i64 l0, .slice (some ⟨g0, 0, none⟩) z0.length z0.length] 27)
  have ha : Boxes (w4.alloc (.cells #[.int .i64 h0, .int .i64 l0, .slice (some ⟨g0, 0, none⟩) z0.length z0.length] 27)) w4.heap.size 27 #[.int .i64 h0, .int .i64 l0, .slice (some ⟨g0, 0, none⟩) z0.length z0.length] := World.alloc_heap_new w4 _
  generalize w4.alloc (.cells #[.int .i64 h0, .int .i64 l0, .slice (some ⟨g0, 0, none⟩) z0.length z0.length] 27) = y0 at *
  replace E := Lib.hid (chain E.out hb)
  replace X0 := Lib.hid (X0.out.step hb)
  have PX0 := Lib.hid ha
  clear hb ha
  generalize w4.heap.size = px0 at *
  refine (toRanks_any h1 l1 a1 z1 c1 _ (R1.out.step E.out) S1.out).mono ?_
  rintro e w5 ⟨rfl, hz, hrow, hb⟩
  obtain ⟨g1, hg1⟩ : ∃ g, y0.heap.size + 3 = g := ⟨_, rfl⟩
  rw [hg1] at hrow ⊢
  have hlo : v4.heap.size ≤ g1 := by have := G0.out; omega
  replace E := Lib.hid (chain E.out hb)
  replace X0 := Lib.hid (X0.out.step hb)
  replace PX0 := Lib.hid (PX0.out.step hb)
  have X1 := Lib.hid hrow
  have G1 := Lib.hid (show v4.heap.size ≤ g1 ∧ g1 + 1 ≤ w5.heap.size from ⟨hlo, by omega⟩)
  have GG1 := Lib.hid (show g0 + 1 ≤ g1 by have := G0.out; omega)
  clear hb hrow hz hg1 hlo
  have B0c0 := (B0.out.step E.out).m0
  have B0c1 := (B0.out.step E.out).m1
  have B0c2 := (B0.out.step E.out).m2
  have B0lt := (B0.out.step E.out).lt
  have B1c0 := (B1.out.step E.out).m0
  have B1c1 := (B1.out.step E.out).m1
  have B1c2 := (B1.out.step E.out).m2
  have B1lt := (B1.out.step E.out).lt
  have Ac0 := (A.out.step E.out).m0
  have Ac1 := (A.out.step E.out).m1
  have Ac2 := (A.out.step E.out).m2
  have Alt := (A.out.step E.out).lt
  have PX0c0 := (PX0.out).m0
  have PX0c1 := (PX0.out).m1
  have PX0c2 := (PX0.out).m2
  have PX0lt := (PX0.out).lt
  go_wp2_with fail
  clear B0c0 B0c1 B0c2 B0lt B1c0 B1c1 B1c2 B1lt Ac0 Ac1 Ac2 Alt PX0c0 PX0c1 PX0c2 PX0lt
  have HPQ1 := Lib.hid (show g0 + 1 ≤ w5.heap.size by have := GG1.out; have := G1.out; omega)
  have hsz : w5.heap.size ≤ (w5.alloc (.cells #[.int .i64 h1, .int .i64 l1, .slice (some ⟨g1, 0, none⟩) z1.length z1.length] 27)).heap.size := by simp
  replace G1 := Lib.hid (show v4.heap.size ≤ g1 ∧ g1 + 1 ≤ (w5.alloc (.cells #[.int .i64 h1, .int .i64 l1, .slice (some ⟨g1, 0, none⟩) z1.length z1.length] 27)).heap.size from ⟨G1.out.1, Nat.le_trans G1.out.2 hsz⟩)
  have HPX1 := Lib.hid (show v4.heap.size ≤ w5.heap.size from E.out.size)
  clear hsz
  have hb := (Below.refl w5.heap.size w5).alloc (Nat.le_refl _) (.cells #[.int .i64 h1, .int .i64 l1, .slice (some ⟨g1, 0, none⟩) z1.length z1.length] 27)
  have ha : Boxes (w5.alloc (.cells #[.int .i64 h1, .int .i64 l1, .slice (some ⟨g1, 0, none⟩) z1.length z1.length] 27)) w5.heap.size 27 #[.int .i64 h1, .int .i64 l1, .slice (some ⟨g1, 0, none⟩) z1.length z1.length] := World.alloc_heap_new w5 _
  generalize w5.alloc (.cells #[.int .i64 h1, .int .i64 l1, .slice (some ⟨g1, 0, none⟩) z1.length z1.length] 27) = y1 at *
  replace E := Lib.hid (chain E.out hb)
  replace X0 := Lib.hid (X0.out.step hb)
  replace PX0 := Lib.hid (PX0.out.step hb)
  replace X1 := Lib.hid (X1.out.step hb)
  have PX1 := Lib.hid ha
  clear hb ha
  generalize w5.heap.size = px1 at *
  refine (HIM.out _ _ _ _ y1 X0.out.rows S0.out X1.out.rows S1.out).mono ?_
  rintro e w6 ⟨⟨vg, rfl, hown⟩, hb⟩
  obtain ⟨ag, cg, rfl⟩ := hown.form
  obtain ⟨bs, hbs⟩ : ∃ b, y1.heap.size = b := ⟨_, rfl⟩
  have HBS := Lib.hid (show v4.heap.size ≤ bs by have := G1.out; omega)
  have HQ := Lib.hid (show bs ≤ w6.heap.size by have := hb.size; omega)
  replace E := Lib.hid (chain E.out hb)
  replace X0 := Lib.hid (X0.out.step hb)
  replace PX0 := Lib.hid (PX0.out.step hb)
  replace X1 := Lib.hid (X1.out.step hb)
  replace PX1 := Lib.hid (PX1.out.step hb)
  rw [hbs] at hown
  rw [hbs] at G1
  have G := Lib.hid hown
  clear hb hown hbs
  have B0c0 := (B0.out.step E.out).m0
  have B0c1 := (B0.out.step E.out).m1
  have B0c2 := (B0.out.step E.out).m2
  have B0lt := (B0.out.step E.out).lt
  have B1c0 := (B1.out.step E.out).m0
  have B1c1 := (B1.out.step E.out).m1
  have B1c2 := (B1.out.step E.out).m2
  have B1lt := (B1.out.step E.out).lt
  have Ac0 := (A.out.step E.out).m0
  have Ac1 := (A.out.step E.out).m1
  have Ac2 := (A.out.step E.out).m2
  have Alt := (A.out.step E.out).lt
  have PX0c0 := (PX0.out).m0
  have PX0c1 := (PX0.out).m1
  have PX0c2 := (PX0.out).m2
  have PX0lt := (PX0.out).lt
  have PX1c0 := (PX1.out).m0
  have PX1c1 := (PX1.out).m1
  have PX1c2 := (PX1.out).m2
  have PX1lt := (PX1.out).lt
  go_wp2_with fail
  clear B0c0 B0c1 B0c2 B0lt B1c0 B1c1 B1c2 B1lt Ac0 Ac1 Ac2 Alt PX0c0 PX0c1 PX0c2 PX0lt PX1c0 PX1c1 PX1c2 PX1lt
  have hb := (Below.refl w6.heap.size w6).alloc (Nat.le_refl _) (.cells #[.int .i64 rh, .int .i64 rk, .slice ag rz.length cg] 27)
  have ha : Boxes (w6.alloc (.cells #[.int .i64 rh, .int .i64 rk, .slice ag rz.length cg] 27)) w6.heap.size 27 #[.int .i64 rh, .int .i64 rk, .slice ag rz.length cg] := World.alloc_heap_new w6 _
  generalize w6.alloc (.cells #[.int .i64 rh, .int .i64 rk, .slice ag rz.length cg] 27) = v7 at *
  replace E := Lib.hid (chain E.out hb)
  replace X0 := Lib.hid (X0.out.step hb)
  replace PX0 := Lib.hid (PX0.out.step hb)
  replace X1 := Lib.hid (X1.out.step hb)
  replace PX1 := Lib.hid (PX1.out.step hb)
  replace G := Lib.hid (G.out.step hb)
  have GB := Lib.hid ha
  clear hb ha
  generalize w6.heap.size = qg at *
  refine (eqRanks_same rh rk ag a rz cg c _ G.out.rows2v (W0.out.step E.out) HSM.out.lens).mono ?_
  rintro e w7 ⟨rfl, hb⟩
  replace E := Lib.hid (chain E.out hb)
  replace X0 := Lib.hid (X0.out.step hb)
  replace PX0 := Lib.hid (PX0.out.step hb)
  replace X1 := Lib.hid (X1.out.step hb)
  replace PX1 := Lib.hid (PX1.out.step hb)
  replace G := Lib.hid (G.out.step hb)
  replace GB := Lib.hid (GB.out.step hb)
  clear hb
  have K : Carry v4 g0 z0 px0 h0 l0 g1 z1 px1 h1 l1 bs ag cg rz qg rh rk _ := ⟨E.out, X0.out, PX0.out, X1.out, PX1.out, G.out, GB.out⟩
  have B0c0 := (B0.out.step E.out).m0
  have B0c1 := (B0.out.step E.out).m1
  have B0c2 := (B0.out.step E.out).m2
  have B0lt := (B0.out.step E.out).lt
  have PX0c0 := (PX0.out).m0
  have PX0c1 := (PX0.out).m1
  have PX0c2 := (PX0.out).m2
  have PX0lt := (PX0.out).lt
  go_wp2_with fail
  go_region_held3 (fun w' => w'.cell? ⟨w.heap.size, 0, none⟩ = some (.int .i64 h0) ∧ w'.cell? ⟨w.heap.size, 1, none⟩ = some (.int .i64 l0) ∧ w'.cell? ⟨w.heap.size, 2, none⟩ = some (.slice a0 z0.length c0) ∧ w'.cell? ⟨px0, 0, none⟩ = some (.int .i64 h0) ∧ w'.cell? ⟨px0, 1, none⟩ = some (.int .i64 l0) ∧ w'.cell? ⟨px0, 2, none⟩ = some (.slice (some ⟨g0, 0, none⟩) z0.length z0.length) ∧ Carry v4 g0 z0 px0 h0 l0 g1 z1 px1 h1 l1 bs ag cg rz qg rh rk w') (first | exact ⟨cell_step (drew_step _) B0c0, cell_step (drew_step _) B0c1, cell_step (drew_step _) B0c2, cell_step (drew_step _) PX0c0, cell_step (drew_step _) PX0c1, cell_step (drew_step _) PX0c2, K.step (drew_step _)⟩ | exact keep6 hb (fun k => k.step hb) (by assumption)) (first | (go_at_call 12; obtain ⟨_, _, _, _, _, _, KK⟩ := ‹_ ∧ _ ∧ _ ∧ _ ∧ _ ∧ _ ∧ Carry v4 g0 z0 px0 h0 l0 g1 z1 px1 h1 l1 bs ag cg rz qg rh rk _›; refine (toRanks_any h0 l0 a0 z0 c0 _ (R0.out.step KK.e) S0.out).mono ?_; rintro e wf ⟨rfl, -, hof, hb⟩; have hx1 := KK.x0.step hb; clear KK) | (go_at_call 14; refine (eqRanks_same h0 l0 _ _ z0 _ _ _ hx1.rows hof.rows S0.out.lens).mono ?_; rintro e w9 ⟨rfl, hb⟩))
  clear B0c0 B0c1 B0c2 B0lt PX0c0 PX0c1 PX0c2 PX0lt K hb hx1 hof
  obtain ⟨-, -, -, -, -, -, K⟩ := ‹_ ∧ _ ∧ _ ∧ _ ∧ _ ∧ _ ∧ Carry v4 g0 z0 px0 h0 l0 g1 z1 px1 h1 l1 bs ag cg rz qg rh rk _›
  replace E := Lib.hid K.e
  replace X0 := Lib.hid K.x0
  replace PX0 := Lib.hid K.b0
  replace X1 := Lib.hid K.x1
  replace PX1 := Lib.hid K.b1
  replace G := Lib.hid K.g
  replace GB := Lib.hid K.gb
  clear K
  have K : Carry v4 g0 z0 px0 h0 l0 g1 z1 px1 h1 l1 bs ag cg rz qg rh rk _ := ⟨E.out, X0.out, PX0.out, X1.out, PX1.out, G.out, GB.out⟩
  have B1c0 := (B1.out.step E.out).m0
  have B1c1 := (B1.out.step E.out).m1
  have B1c2 := (B1.out.step E.out).m2
  have B1lt := (B1.out.step E.out).lt
  have PX1c0 := (PX1.out).m0
  have PX1c1 := (PX1.out).m1
  have PX1c2 := (PX1.out).m2
  have PX1lt := (PX1.out).lt
  go_wp2_with fail
  go_region_held3 (fun w' => w'.cell? ⟨w.heap.size + 1, 0, none⟩ = some (.int .i64 h1) ∧ w'.cell? ⟨w.heap.size + 1, 1, none⟩ = some (.int .i64 l1) ∧ w'.cell? ⟨w.heap.size + 1, 2, none⟩ = some (.slice a1 z1.length c1) ∧ w'.cell? ⟨px1, 0, none⟩ = some (.int .i64 h1) ∧ w'.cell? ⟨px1, 1, none⟩ = some (.int .i64 l1) ∧ w'.cell? ⟨px1, 2, none⟩ = some (.slice (some ⟨g1, 0, none⟩) z1.length z1.length) ∧ Carry v4 g0 z0 px0 h0 l0 g1 z1 px1 h1 l1 bs ag cg rz qg rh rk w') (first | exact ⟨cell_step (drew_step _) B1c0, cell_step (drew_step _) B1c1, cell_step (drew_step _) B1c2, cell_step (drew_step _) PX1c0, cell_step (drew_step _) PX1c1, cell_step (drew_step _) PX1c2, K.step (drew_step _)⟩ | exact keep6 hb (fun k => k.step hb) (by assumption)) (first | (go_at_call 12; obtain ⟨_, _, _, _, _, _, KK⟩ := ‹_ ∧ _ ∧ _ ∧ _ ∧ _ ∧ _ ∧ Carry v4 g0 z0 px0 h0 l0 g1 z1 px1 h1 l1 bs ag cg rz qg rh rk _›; refine (toRanks_any h1 l1 a1 z1 c1 _ (R1.out.step KK.e) S1.out).mono ?_; rintro e wf ⟨rfl, -, hof, hb⟩; have hx1 := KK.x1.step hb; clear KK) | (go_at_call 14; refine (eqRanks_same h1 l1 _ _ z1 _ _ _ hx1.rows hof.rows S1.out.lens).mono ?_; rintro e w9 ⟨rfl, hb⟩))
  clear B1c0 B1c1 B1c2 B1lt PX1c0 PX1c1 PX1c2 PX1lt K hb hx1 hof
  obtain ⟨-, -, -, -, -, -, K⟩ := ‹_ ∧ _ ∧ _ ∧ _ ∧ _ ∧ _ ∧ Carry v4 g0 z0 px0 h0 l0 g1 z1 px1 h1 l1 bs ag cg rz qg rh rk _›
  replace E := Lib.hid K.e
  replace X0 := Lib.hid K.x0
  replace PX0 := Lib.hid K.b0
  replace X1 := Lib.hid K.x1
  replace PX1 := Lib.hid K.b1
  replace G := Lib.hid K.g
  replace GB := Lib.hid K.gb
  clear K
  have B0c0 := (B0.out.step E.out).m0
  have B0c1 := (B0.out.step E.out).m1
  have B0c2 := (B0.out.step E.out).m2
  have B0lt := (B0.out.step E.out).lt
  have B1c0 := (B1.out.step E.out).m0
  have B1c1 := (B1.out.step E.out).m1
  have B1c2 := (B1.out.step E.out).m2
  have B1lt := (B1.out.step E.out).lt
  have Ac0 := (A.out.step E.out).m0
  have Ac1 := (A.out.step E.out).m1
  have Ac2 := (A.out.step E.out).m2
  have Alt := (A.out.step E.out).lt
  have PX0c0 := (PX0.out).m0
  have PX0c1 := (PX0.out).m1
  have PX0c2 := (PX0.out).m2
  have PX0lt := (PX0.out).lt
  have PX1c0 := (PX1.out).m0
  have PX1c1 := (PX1.out).m1
  have PX1c2 := (PX1.out).m2
  have PX1lt := (PX1.out).lt
  have GBc0 := (GB.out).m0
  have GBc1 := (GB.out).m1
  have GBc2 := (GB.out).m2
  have GBlt := (GB.out).lt
  go_wp2_with fail
  clear B0c0 B0c1 B0c2 B0lt B1c0 B1c1 B1c2 B1lt Ac0 Ac1 Ac2 Alt PX0c0 PX0c1 PX0c2 PX0lt PX1c0 PX1c1 PX1c2 PX1lt GBc0 GBc1 GBc2 GBlt
  refine (markRanks3_any h0 l0 g0 _ z0 1 _ X0.out S0.out (by omega) (by omega)).mono ?_
  rintro e w8 ⟨rfl, ht⟩
  have hgl := Nat.le_of_lt (X0.out.lt rfl).2
  have hk0 : (0 : Int) ≤ 1 + (z0.length : Int) := by omega
  have hku0 : 1 + (z0.length : Int) ≤ 1048577 := by have := TT0.out; omega
  generalize 1 + (z0.length : Int) = k0 at hk0 hku0 ⊢
  replace E := Lib.hid (E.out.trans (ht.below G0.out.1 hgl))
  have hhi : g0 + 1 ≤ bs := by have := G1.out.2; have := GG1.out; omega
  replace G := Lib.hid (ht.own G.out hhi)
  replace GB := Lib.hid (GB.out.touch ht (by have := HQ.out; omega))
  replace X1 := Lib.hid (X1.out.touch ht GG1.out)
  have hpq : g0 + 1 ≤ px1 := HPQ1.out
  replace PX1 := Lib.hid (PX1.out.touch ht hpq)
  clear hpq
  clear ht hgl hhi
  clear X0
  clear PX0
  have Ac0 := (A.out.step E.out).m0
  have Ac1 := (A.out.step E.out).m1
  have Ac2 := (A.out.step E.out).m2
  have Alt := (A.out.step E.out).lt
  have PX1c0 := (PX1.out).m0
  have PX1c1 := (PX1.out).m1
  have PX1c2 := (PX1.out).m2
  have PX1lt := (PX1.out).lt
  have GBc0 := (GB.out).m0
  have GBc1 := (GB.out).m1
  have GBc2 := (GB.out).m2
  have GBlt := (GB.out).lt
  go_wp2_with fail
  clear Ac0 Ac1 Ac2 Alt PX1c0 PX1c1 PX1c2 PX1lt GBc0 GBc1 GBc2 GBlt
  refine (markRanks3_any h1 l1 g1 _ z1 k0 _ X1.out S1.out (by omega) (by omega)).mono ?_
  rintro e w9 ⟨rfl, ht⟩
  have hgl := Nat.le_of_lt (X1.out.lt rfl).2
  have hk1 : (0 : Int) ≤ k0 + (z1.length : Int) := by omega
  have hku1 : k0 + (z1.length : Int) ≤ 2097153 := by have := TT1.out; omega
  generalize k0 + (z1.length : Int) = k1 at hk1 hku1 ⊢
  replace E := Lib.hid (E.out.trans (ht.below G1.out.1 hgl))
  have hhi : g1 + 1 ≤ bs := by have := G1.out.2; omega
  replace G := Lib.hid (ht.own G.out hhi)
  replace GB := Lib.hid (GB.out.touch ht (by have := HQ.out; omega))
  clear ht hgl hhi
  clear X1
  clear PX1
  have Ac0 := (A.out.step E.out).m0
  have Ac1 := (A.out.step E.out).m1
  have Ac2 := (A.out.step E.out).m2
  have Alt := (A.out.step E.out).lt
  have GBc0 := (GB.out).m0
  have GBc1 := (GB.out).m1
  have GBc2 := (GB.out).m2
  have GBlt := (GB.out).lt
  go_wp2_with fail
  clear Ac0 Ac1 Ac2 Alt GBc0 GBc1 GBc2 GBlt
  refine (eqRanks_same rh rk ag a rz cg c _ G.out.rows2v (W0.out.step E.out) HSM.out.lens).mono ?_
  rintro e w10 ⟨rfl, hb⟩
  replace E := Lib.hid (chain E.out hb)
  replace G := Lib.hid (G.out.step hb)
  replace GB := Lib.hid (GB.out.step hb)
  clear hb
  have GBc0 := (GB.out).m0
  have GBc1 := (GB.out).m1
  have GBc2 := (GB.out).m2
  have GBlt := (GB.out).lt
  go_wp2_with fail
  clear GBc0 GBc1 GBc2 GBlt
  refine (markRkO_any rh rk _ rz bs 1 _ G.out HSM.out (by omega) (by omega) (Nat.le_trans HQ.out (Nat.le_of_lt GB.out.lt))).mono ?_
  rintro e w11 ⟨rfl, hown, hb, hsz, hkt⟩
  replace E := Lib.hid (E.out.trans (hb.mono HBS.out))
  replace G := Lib.hid hown
  replace GB := Lib.hid (GB.out.keeps hkt (by decide))
  clear hown hb hsz hkt
  have t2 : ((1 : Int) + (rz.length : Int) != (1 : Int) + (rz.length : Int)) = false := by simp
  have GBc0 := (GB.out).m0
  have GBc1 := (GB.out).m1
  have GBc2 := (GB.out).m2
  have GBlt := (GB.out).lt
  go_wp2_with fail
  clear GBc0 GBc1 GBc2 GBlt
  refine (heldRkO_any rh rk ag rz.length cg 1 _ (Ints_of_own G.out) (by omega) (by omega) (by omega)).mono ?_
  rintro e w12 ⟨rfl, hb⟩
  replace E := Lib.hid (chain E.out hb)
  replace G := Lib.hid (G.out.step hb)
  replace GB := Lib.hid (GB.out.step hb)
  clear hb
  have B0c0 := (B0.out.step E.out).m0
  have B0c1 := (B0.out.step E.out).m1
  have B0c2 := (B0.out.step E.out).m2
  have B0lt := (B0.out.step E.out).lt
  have B1c0 := (B1.out.step E.out).m0
  have B1c1 := (B1.out.step E.out).m1
  have B1c2 := (B1.out.step E.out).m2
  have B1lt := (B1.out.step E.out).lt
  go_wp2_with fail
  clear B0c0 B0c1 B0c2 B0lt B1c0 B1c1 B1c2 B1lt
  have B0c0 := (B0.out.step E.out).m0
  have B0c1 := (B0.out.step E.out).m1
  have B0c2 := (B0.out.step E.out).m2
  have B0lt := (B0.out.step E.out).lt
  have B1c0 := (B1.out.step E.out).m0
  have B1c1 := (B1.out.step E.out).m1
  have B1c2 := (B1.out.step E.out).m2
  have B1lt := (B1.out.step E.out).lt
  have MK := Lib.hid (show ∀ w' : World, Below w12.heap.size w12 w' → Below w12.heap.size w12 w' ∧ w'.cell? ⟨w.heap.size, 0, none⟩ = some (.int .i64 h0) ∧ w'.cell? ⟨w.heap.size, 1, none⟩ = some (.int .i64 l0) ∧ w'.cell? ⟨w.heap.size, 2, none⟩ = some (.slice a0 z0.length c0) ∧ w'.cell? ⟨w.heap.size + 1, 0, none⟩ = some (.int .i64 h1) ∧ w'.cell? ⟨w.heap.size + 1, 1, none⟩ = some (.int .i64 l1) ∧ w'.cell? ⟨w.heap.size + 1, 2, none⟩ = some (.slice a1 z1.length c1) from fun w' h => ⟨h, cell_step h B0c0, cell_step h B0c1, cell_step h B0c2, cell_step h B1c0, cell_step h B1c1, cell_step h B1c2⟩)
  go_cut [15, 16] from 94 to 101 (fun s15 s16 wr => ∃ (qz : Nat) (az : Option Addr) (cz : Nat), s15 = .pointer (some ⟨qz, 0, none⟩) ∧ s16 = .int .i64 rc ∧ Boxes wr qz 27 #[.int .i64 rh, .int .i64 rk, .slice az rz.length cz] ∧ Ints wr az rz ∧ Below w12.heap.size w12 wr)
  case first =>
    go_region_held3 (fun w' => Below w12.heap.size w12 w' ∧ w'.cell? ⟨w.heap.size, 0, none⟩ = some (.int .i64 h0) ∧ w'.cell? ⟨w.heap.size, 1, none⟩ = some (.int .i64 l0) ∧ w'.cell? ⟨w.heap.size, 2, none⟩ = some (.slice a0 z0.length c0) ∧ w'.cell? ⟨w.heap.size + 1, 0, none⟩ = some (.int .i64 h1) ∧ w'.cell? ⟨w.heap.size + 1, 1, none⟩ = some (.int .i64 l1) ∧ w'.cell? ⟨w.heap.size + 1, 2, none⟩ = some (.slice a1 z1.length c1)) (first | exact MK.out _ (drew_step _) | exact MK.out _ (alloc_step _ _).drew | exact MK.out _ (chain (‹Below w12.heap.size w12 _ ∧ _›).1 hb) | exact MK.out _ ((‹Below w12.heap.size w12 _ ∧ _›).1.alloc (‹Below w12.heap.size w12 _ ∧ _›).1.size _) | exact MK.out _ (((((‹Below w12.heap.size w12 _ ∧ _›).1).setCell nb.lo _).setCell nb.lo _).setCell nb.lo _) | exact MK.out _ (KS.alloc KS.size _) | exact MK.out _ (((((‹Below w12.heap.size w12 _ ∧ _›).1).setCell KS.size _).setCell KS.size _).setCell KS.size _) | fail) (first | (go_at_call_of 12 h0; have KK := (‹Below w12.heap.size w12 _ ∧ _›).1; refine (toRanks_any h0 l0 a0 z0 c0 _ ((R0.out.step E.out).step KK) S0.out).mono ?_; rintro e wf0 ⟨rfl, -, hof0, hb⟩; have EW0 := chain KK hb; clear KK; (try simp only [World.size_drew] at hof0); (try simp only [World.size_alloc] at hof0); (first | (have nb := newb_kept2 hb) | (have nb := newb_kept (drew_step _) hb) | (have nb := newb_kept EW0 hb) | (have nb := newb_kept EW1 hb) | (replace nb := nb.step hb) | skip); (try (have bq0 := nb.bx.m0; have bf0 := nb.bx.frozen 0; have bq1 := nb.bx.m1; have bf1 := nb.bx.frozen 1; have bq2 := nb.bx.m2; have bf2 := nb.bx.frozen 2))) | (go_at_call_of 12 h1; have KK := (‹Below w12.heap.size w12 _ ∧ _›).1; refine (toRanks_any h1 l1 a1 z1 c1 _ ((R1.out.step E.out).step KK) S1.out).mono ?_; rintro e wf1 ⟨rfl, -, hof1, hb⟩; have EW1 := chain KK hb; clear KK; (try simp only [World.size_drew] at hof1); (try simp only [World.size_alloc] at hof1); (first | (have nb := newb_kept2 hb) | (have nb := newb_kept (drew_step _) hb) | (have nb := newb_kept EW0 hb) | (have nb := newb_kept EW1 hb) | (replace nb := nb.step hb) | skip); (try (have bq0 := nb.bx.m0; have bf0 := nb.bx.frozen 0; have bq1 := nb.bx.m1; have bf1 := nb.bx.frozen 1; have bq2 := nb.bx.m2; have bf2 := nb.bx.frozen 2))) | (go_at_call 24; (try have hql := nb.bx.lt); have KK := (‹Below w12.heap.size w12 _ ∧ _›).1; refine (HIM.out _ _ _ _ _ ?_ S0.out ?_ S1.out).mono ?_; (first | exact hof0.rows | exact hof0.rows.step hb | exact hof0.rows.step (alloc_step _ _) | exact (hof0.rows.step hb).step (alloc_step _ _) | exact (hof0.rows.step (alloc_step _ _)).step hb); (first | exact hof1.rows | exact hof1.rows.step hb | exact hof1.rows.step (alloc_step _ _) | exact (hof1.rows.step hb).step (alloc_step _ _) | exact (hof1.rows.step (alloc_step _ _)).step hb); rintro e ws ⟨⟨vh, rfl, hownh⟩, hb⟩; obtain ⟨az, cz, rfl⟩ := hownh.form; have hz0 := hownh; clear hownh; have KS := chain KK hb; clear KK; (first | (have nb := newb_kept2 hb) | (have nb := newb_kept (drew_step _) hb) | (have nb := newb_kept EW0 hb) | (have nb := newb_kept EW1 hb) | (replace nb := nb.step hb) | skip); (try (have bq0 := nb.bx.m0; have bf0 := nb.bx.frozen 0; have bq1 := nb.bx.m1; have bf1 := nb.bx.frozen 1; have bq2 := nb.bx.m2; have bf2 := nb.bx.frozen 2))))
    all_goals (have KF := (‹Below w12.heap.size w12 _ ∧ _›).1; go_wp2_with fail; go_meet; first | exact ⟨_, _, _, rfl, rfl, World.alloc_heap_new ws _, hz0.rows2v.step (alloc_step _ _), KF⟩ | exact ⟨_, _, _, rfl, rfl, nb.bx.all3 _ _ _, ((((hz0).setCell2 (p := ⟨_, 0, none⟩) (by first | exact hql | simp) _).setCell2 (p := ⟨_, 1, none⟩) (by first | exact hql | simp) _).setCell2 (p := ⟨_, 2, none⟩) (by first | exact hql | simp) _).rows2v, KF⟩)
  case rest =>
  clear MK B0c0 B0c1 B0c2 B0lt B1c0 B1c1 B1c2 B1lt
  obtain ⟨qz, az, cz, rfl, rfl, hbx, hrz, hb⟩ := hcut
  obtain ⟨w13, hwn⟩ : ∃ W : World, W = wc := ⟨_, rfl⟩
  subst hwn
  replace E := Lib.hid (chain E.out hb)
  replace G := Lib.hid (G.out.step hb)
  replace GB := Lib.hid (GB.out.step hb)
  clear hb
  have HB := Lib.hid hbx
  have H := Lib.hid hrz
  clear hbx hrz
  generalize qz = qh at *
  generalize az = ah at *
  generalize cz = ch at *
  have Ac0 := (A.out.step E.out).m0
  have Ac1 := (A.out.step E.out).m1
  have Ac2 := (A.out.step E.out).m2
  have Alt := (A.out.step E.out).lt
  have HBc0 := (HB.out).m0
  have HBc1 := (HB.out).m1
  have HBc2 := (HB.out).m2
  have HBlt := (HB.out).lt
  go_wp2_with fail
  clear Ac0 Ac1 Ac2 Alt HBc0 HBc1 HBc2 HBlt
  refine (eqRanks_same rh rk ah a rz ch c _ H.out (W0.out.step E.out) HSM.out.lens).mono ?_
  rintro e w14 ⟨rfl, hb⟩
  replace E := Lib.hid (chain E.out hb)
  replace G := Lib.hid (G.out.step hb)
  replace GB := Lib.hid (GB.out.step hb)
  replace HB := Lib.hid (HB.out.step hb)
  replace H := Lib.hid (H.out.step hb)
  clear hb
  clear H HB
  have GBc0 := (GB.out).m0
  have GBc1 := (GB.out).m1
  have GBc2 := (GB.out).m2
  have GBlt := (GB.out).lt
  go_wp2_with fail
  clear GBc0 GBc1 GBc2 GBlt
  refine (heldRkO_any rh rk ag rz.length cg 1 _ (Ints_of_own G.out) (by omega) (by omega) (by omega)).mono ?_
  rintro e w15 ⟨rfl, hb⟩
  replace E := Lib.hid (chain E.out hb)
  replace G := Lib.hid (G.out.step hb)
  replace GB := Lib.hid (GB.out.step hb)
  clear hb
  go_wp2_with fail
  go_ret
  exact ⟨rfl, D.out.trans (E.out.mono D.out.size)⟩
end AddRanks
end Go.Proofs.Ytdfggbojccfblaa

/- LffA Lff1 Lff2 Lff3 in one text. -/
import Derived.Test.YtdfggbojccfblaaDoorFsZ
import Derived.Test.YtdfggbojccfblaaDoorLawA
import Derived.Test.YtdfggbojccfblaaDoorMk2f
import Derived.Deep.RegionHeld3
import Derived.Deep.CutRange
import Derived.Test.YtdfggbojccfblaaDoorOpen
import Derived.Test.YtdfggbojccfblaaDoorCp
import Derived.LaidHandle
import Derived.LaidLaws
import Derived.LaidMore
import Derived.Test.YtdfggbojccfblaaDoorLffC
import Derived.Test.YtdfggbojccfblaaDoorLffD
import Derived.Test.YtdfggbojccfblaaDoorTie
namespace Go.Proofs.YtdfggbojccfblaaDoor
open Go.ChangeShapes Go.WideShapes Go.ChangeAt Go.RowKit Go.Deep
set_option linter.unusedVariables false
namespace Fits

/-- What is carried over the second half. -/
structure Carry (v4 : World) (g0 : Nat) (z0 : List Int) (px0 : Nat) (h0 : Int) (l0 : Int) (g1 : Nat) (z1 : List (List Int)) (px1 : Nat) (h1 : Int) (W : World) : Prop where
  e : Below v4.heap.size v4 W
  x0 : OwnI W g0 (.slice (some ⟨g0, 0, none⟩) z0.length z0.length) z0
  b0 : Boxes W px0 27 #[.int .i64 h0, .int .i64 l0, .slice (some ⟨g0, 0, none⟩) z0.length z0.length]
  x1 : Own2 W g1 z1
  b1 : Boxes W px1 37 #[.int .i64 h1, .slice (some ⟨g1, 0, none⟩) z1.length z1.length]
/-- A box that has been laid behind a world. -/
structure NewB (w2 W : World) (q : Nat) (t : TypeId) (vs : Array Value) : Prop where
  lo : w2.heap.size ≤ q
  bx : Boxes W q t vs
theorem NewB.step {w2 W W' : World} {q : Nat} {t : TypeId} {vs : Array Value} (hb : Below W.heap.size W W') (k : NewB w2 W q t vs) : NewB w2 W' q t vs := ⟨k.lo, k.bx.step hb⟩
theorem newb_kept {w2 w w' : World} {t : TypeId} {vs : Array Value} (hE : Below w2.heap.size w2 w) (hb : Below (w.alloc (.cells vs t)).heap.size (w.alloc (.cells vs t)) w') : NewB w2 w' w.heap.size t vs := ⟨hE.size, Boxes.step (World.alloc_heap_new w _) hb⟩
theorem newb_kept2 {w w' : World} {t : TypeId} {vs : Array Value} (hb : Below (w.alloc (.cells vs t)).drew.heap.size (w.alloc (.cells vs t)).drew w') : NewB w w' w.heap.size t vs := ⟨Nat.le_refl _, Boxes.step (Boxes.step (World.alloc_heap_new w _) (drew_step _)) hb⟩
theorem NewB.zero {w2 w : World} {t : TypeId} {vs : Array Value} (hE : Below w2.heap.size w2 w) : NewB w2 (w.alloc (.cells vs t)) w.heap.size t vs := ⟨hE.size, World.alloc_heap_new w _⟩
theorem alloc_step (w : World) (o : Obj) : Below w.heap.size w (w.alloc o) := (Below.refl _ _).alloc (Nat.le_refl _) o

theorem Carry.step {v4 : World} {g0 : Nat} {z0 : List Int} {px0 : Nat} {h0 : Int} {l0 : Int} {g1 : Nat} {z1 : List (List Int)} {px1 : Nat} {h1 : Int} {W W' : World} (hb : Below W.heap.size W W') (k : Carry v4 g0 z0 px0 h0 l0 g1 z1 px1 h1 W) : Carry v4 g0 z0 px0 h0 l0 g1 z1 px1 h1 W' := ⟨chain k.e hb, k.x0.step hb, k.b0.step hb, k.x1.step hb, k.b1.step hb⟩
theorem keep4 {w w' : World} {p1 p2 p3 p4 : Addr} {u1 u2 u3 u4 : Value} {C : World → Prop} (hb : Below w.heap.size w w') (hC : C w → C w') (h : w.cell? p1 = some u1 ∧ w.cell? p2 = some u2 ∧ w.cell? p3 = some u3 ∧ w.cell? p4 = some u4 ∧ C w) : w'.cell? p1 = some u1 ∧ w'.cell? p2 = some u2 ∧ w'.cell? p3 = some u3 ∧ w'.cell? p4 = some u4 ∧ C w' :=
  ⟨cell_step hb h.1, cell_step hb h.2.1, cell_step hb h.2.2.1, cell_step hb h.2.2.2.1, hC h.2.2.2.2⟩
theorem keep5 {w w' : World} {p1 p2 p3 p4 p5 : Addr} {u1 u2 u3 u4 u5 : Value} {C : World → Prop} (hb : Below w.heap.size w w') (hC : C w → C w') (h : w.cell? p1 = some u1 ∧ w.cell? p2 = some u2 ∧ w.cell? p3 = some u3 ∧ w.cell? p4 = some u4 ∧ w.cell? p5 = some u5 ∧ C w) : w'.cell? p1 = some u1 ∧ w'.cell? p2 = some u2 ∧ w'.cell? p3 = some u3 ∧ w'.cell? p4 = some u4 ∧ w'.cell? p5 = some u5 ∧ C w' :=
  ⟨cell_step hb h.1, cell_step hb h.2.1, cell_step hb h.2.2.1, cell_step hb h.2.2.2.1, cell_step hb h.2.2.2.2.1, hC h.2.2.2.2.2⟩
theorem keep6 {w w' : World} {p1 p2 p3 p4 p5 p6 : Addr} {u1 u2 u3 u4 u5 u6 : Value} {C : World → Prop} (hb : Below w.heap.size w w') (hC : C w → C w') (h : w.cell? p1 = some u1 ∧ w.cell? p2 = some u2 ∧ w.cell? p3 = some u3 ∧ w.cell? p4 = some u4 ∧ w.cell? p5 = some u5 ∧ w.cell? p6 = some u6 ∧ C w) : w'.cell? p1 = some u1 ∧ w'.cell? p2 = some u2 ∧ w'.cell? p3 = some u3 ∧ w'.cell? p4 = some u4 ∧ w'.cell? p5 = some u5 ∧ w'.cell? p6 = some u6 ∧ C w' :=
  ⟨cell_step hb h.1, cell_step hb h.2.1, cell_step hb h.2.2.1, cell_step hb h.2.2.2.1, cell_step hb h.2.2.2.2.1, cell_step hb h.2.2.2.2.2.1, hC h.2.2.2.2.2.2⟩

set_option maxHeartbeats 4000000 in
set_option maxRecDepth 100000 in
theorem law_of (h0 l0 : Int) (a0 : Option Addr) (z0 : List Int) (c0 : Nat) (h1 : Int) (a1 : Option Addr) (z1 : List (List Int)) (c1 : Nat) (rb : Bool) (rc : Int) (w : World) (hr0 : Ints w a0 z0) (hl0 : LenI z0) (wfh0 : (Lit.int .i64 h0).wf = true) (wfl0 : (Lit.int .i64 l0).wf = true) (hr1 : Rows2 w a1 z1) (hl1 : Lens z1) (wfh1 : (Lit.int .i64 h1).wf = true)
    
    (hS : ∀ (b0 : Option Addr) (d0 : Nat) (b1 : Option Addr) (d1 : Nat) (W : World), Ints W b0 z0 → SmI z0 → Rows2 W b1 z1 → Small2 z1 → Calls Tryd.prog 14 #[.agg #[.int .i64 h0, .int .i64 l0, .slice b0 z0.length d0], .agg #[.int .i64 h1, .slice b1 z1.length d1]] W (fun e w' => e = .returned (.tuple #[.bool rb, .int .i64 rc]) ∧ Below W.heap.size W w'))
    (hI : ∀ (b0 : Option Addr) (d0 : Nat) (b1 : Option Addr) (d1 : Nat) (W : World), Ints W b0 z0 → SmI z0 → Rows2 W b1 z1 → Small2 z1 → Calls Tryd.prog 16 #[.agg #[.int .i64 h0, .int .i64 l0, .slice b0 z0.length d0], .agg #[.int .i64 h1, .slice b1 z1.length d1]] W (fun e w' => e = .returned (.tuple #[.bool rb, .int .i64 rc]) ∧ Below W.heap.size W w'))
     :
    Calls Tryd.prog 4 #[.agg #[.int .i64 h0, .int .i64 l0, .slice a0 z0.length c0], .agg #[.int .i64 h1, .slice a1 z1.length c1]] w fun e w' => e = .returned (.bool true) ∧ Below w.heap.size w w' := by
  have HSP := Lib.hid hS
  have HIM := Lib.hid hI
  clear hS hI
  have D := Lib.hid (Below.refl w.heap.size w)
  have R0 := Lib.hid hr0
  clear hr0
  have L0 := Lib.hid hl0
  clear hl0
  have R1 := Lib.hid hr1
  clear hr1
  have L1 := Lib.hid hl1
  clear hl1
  go_enter Tryd.func4, Tryd.ntmps4
  go_wp2_with fail
  have hb := (Below.refl (w).heap.size (w)).alloc (Nat.le_refl _) (.cells #[.int .i64 h0, .int .i64 l0, .slice a0 z0.length c0] 24)
  have ha0 : Boxes ((w).alloc (.cells #[.int .i64 h0, .int .i64 l0, .slice a0 z0.length c0] 24)) (w).heap.size 24 #[.int .i64 h0, .int .i64 l0, .slice a0 z0.length c0] := World.alloc_heap_new _ _
  replace D := Lib.hid (chain D.out hb)
  replace R0 := Lib.hid (R0.out.step hb)
  replace R1 := Lib.hid (R1.out.step hb)
  clear hb
  have hb := (Below.refl ((w).alloc (.cells #[.int .i64 h0, .int .i64 l0, .slice a0 z0.length c0] 24)).heap.size ((w).alloc (.cells #[.int .i64 h0, .int .i64 l0, .slice a0 z0.length c0] 24))).alloc (Nat.le_refl _) (.cells #[.int .i64 h1, .slice a1 z1.length c1] 33)
  have ha1 : Boxes (((w).alloc (.cells #[.int .i64 h0, .int .i64 l0, .slice a0 z0.length c0] 24)).alloc (.cells #[.int .i64 h1, .slice a1 z1.length c1] 33)) ((w).alloc (.cells #[.int .i64 h0, .int .i64 l0, .slice a0 z0.length c0] 24)).heap.size 33 #[.int .i64 h1, .slice a1 z1.length c1] := World.alloc_heap_new _ _
  replace ha0 := ha0.step hb
  replace D := Lib.hid (chain D.out hb)
  replace R0 := Lib.hid (R0.out.step hb)
  replace R1 := Lib.hid (R1.out.step hb)
  clear hb
  simp only [World.size_alloc] at ha0 ha1
  generalize hv1 : ((w).alloc (.cells #[.int .i64 h0, .int .i64 l0, .slice a0 z0.length c0] 24)).alloc (.cells #[.int .i64 h1, .slice a1 z1.length c1] 33) = v1 at *
  have B0 := Lib.hid ha0
  clear ha0
  have B1 := Lib.hid ha1
  clear ha1
  clear hv1
  refine (szRanks2_any h0 l0 a0 z0 c0 1048576 _ R0.out (by omega) (by omega) L0.out).mono ?_
  rintro e w1 ⟨⟨u0, hu0, rfl⟩, hb⟩
  replace D := Lib.hid (chain D.out hb)
  replace R0 := Lib.hid (R0.out.step hb)
  replace R1 := Lib.hid (R1.out.step hb)
  replace B0 := Lib.hid (B0.out.step hb)
  replace B1 := Lib.hid (B1.out.step hb)
  clear hb
  rcases hu0 with rfl | ⟨hu00, hut0, hu01, hsm0⟩
  · go_wp2_with fail
    go_ret
    exact ⟨rfl, D.out⟩
  have S0 := Lib.hid hsm0
  have hz0 : z0.length ≤ 1048576 := hsm0.1
  clear hsm0
  have TT0 := Lib.hid hut0
  clear hut0
  have B0c0 := (B0.out).m0
  have B0c1 := (B0.out).m1
  have B0c2 := (B0.out).m2
  have B0lt := (B0.out).lt
  have B1c0 := (B1.out).c0
  have B1c1 := (B1.out).c1
  have B1lt := (B1.out).lt
  go_wp2_with fail
  clear B0c0 B0c1 B0c2 B0lt B1c0 B1c1 B1lt
  refine (szFamily2_any h1 a1 z1 c1 u0 _ R1.out (by omega) (by omega) L1.out.1 L1.out.2).mono ?_
  rintro e w2 ⟨⟨u1, hu1, rfl⟩, hb⟩
  replace D := Lib.hid (chain D.out hb)
  replace R0 := Lib.hid (R0.out.step hb)
  replace R1 := Lib.hid (R1.out.step hb)
  replace B0 := Lib.hid (B0.out.step hb)
  replace B1 := Lib.hid (B1.out.step hb)
  clear hb
  rcases hu1 with rfl | ⟨hu10, hut1, hu11, hsm1⟩
  · go_wp2_with fail
    go_ret
    exact ⟨rfl, D.out⟩
  have S1 := Lib.hid hsm1
  have hz1 : z1.length ≤ 1048576 := hsm1.1
  clear hsm1
  have TT1 := Lib.hid hut1
  clear hut1
  have B0c0 := (B0.out).m0
  have B0c1 := (B0.out).m1
  have B0c2 := (B0.out).m2
  have B0lt := (B0.out).lt
  have B1c0 := (B1.out).c0
  have B1c1 := (B1.out).c1
  have B1lt := (B1.out).lt
  go_wp2_with fail
  clear B0c0 B0c1 B0c2 B0lt B1c0 B1c1 B1lt
  have B0c0 := (B0.out).m0
  have B0c1 := (B0.out).m1
  have B0c2 := (B0.out).m2
  have B0lt := (B0.out).lt
  have B1c0 := (B1.out).c0
  have B1c1 := (B1.out).c1
  have B1lt := (B1.out).lt
  have MK := Lib.hid (show ∀ w' : World, Below w2.heap.size w2 w' → Below w2.heap.size w2 w' ∧ w'.cell? ⟨w.heap.size, 0, none⟩ = some (.int .i64 h0) ∧ w'.cell? ⟨w.heap.size, 1, none⟩ = some (.int .i64 l0) ∧ w'.cell? ⟨w.heap.size, 2, none⟩ = some (.slice a0 z0.length c0) ∧ w'.cell? ⟨w.heap.size + 1, 0, none⟩ = some (.int .i64 h1) ∧ w'.cell? ⟨w.heap.size + 1, 1, none⟩ = some (.slice a1 z1.length c1) from fun w' h => ⟨h, cell_step h B0c0, cell_step h B0c1, cell_step h B0c2, cell_step h B1c0, cell_step h B1c1⟩)
  go_cut [6, 7] from 22 to 29 (fun s6 s7 wr => s6 = .bool rb ∧ s7 = .int .i64 rc ∧ Below w2.heap.size w2 wr)
  case first =>
    go_region_held3 (fun w' => Below w2.heap.size w2 w' ∧ w'.cell? ⟨w.heap.size, 0, none⟩ = some (.int .i64 h0) ∧ w'.cell? ⟨w.heap.size, 1, none⟩ = some (.int .i64 l0) ∧ w'.cell? ⟨w.heap.size, 2, none⟩ = some (.slice a0 z0.length c0) ∧ w'.cell? ⟨w.heap.size + 1, 0, none⟩ = some (.int .i64 h1) ∧ w'.cell? ⟨w.heap.size + 1, 1, none⟩ = some (.slice a1 z1.length c1)) (first | exact MK.out _ (drew_step _) | exact MK.out _ (alloc_step _ _).drew | exact MK.out _ (chain (‹Below w2.heap.size w2 _ ∧ _›).1 hb) | fail) (first | (go_at_call_of 10 h0; have KK := (‹Below w2.heap.size w2 _ ∧ _›).1; refine (toRanks_any h0 l0 a0 z0 c0 _ (R0.out.step KK) S0.out).mono ?_; rintro e wf0 ⟨rfl, -, hof0, hb⟩; have EW0 := chain KK hb; clear KK; (try simp only [World.size_drew] at hof0); (try simp only [World.size_alloc] at hof0)) | (go_at_call_of 15 h1; have KK := (‹Below w2.heap.size w2 _ ∧ _›).1; refine (toFamily_any h1 a1 z1 c1 _ (R1.out.step KK) S1.out).mono ?_; rintro e wf1 ⟨rfl, -, hof1, hb⟩; have EW1 := chain KK hb; clear KK; (try simp only [World.size_drew] at hof1); (try simp only [World.size_alloc] at hof1)) | (go_at_call 14; have KK := (‹Below w2.heap.size w2 _ ∧ _›).1; refine (HSP.out _ _ _ _ _ ?_ S0.out ?_ S1.out).mono ?_; (first | exact hof0.rows | exact hof0.rows.step hb | exact hof0.rows.step (alloc_step _ _) | exact (hof0.rows.step hb).step (alloc_step _ _) | exact (hof0.rows.step (alloc_step _ _)).step hb); (first | exact hof1.rows | exact hof1.rows.step hb | exact hof1.rows.step (alloc_step _ _) | exact (hof1.rows.step hb).step (alloc_step _ _) | exact (hof1.rows.step (alloc_step _ _)).step hb); rintro e ws ⟨rfl, hb⟩; have KS := chain KK hb; clear KK))
    all_goals (have KF := (‹Below w2.heap.size w2 _ ∧ _›).1; go_wp2_with fail; go_meet; exact ⟨rfl, rfl, KF⟩)
  case rest =>
  clear MK B0c0 B0c1 B0c2 B0lt B1c0 B1c1 B1lt
  obtain ⟨rfl, rfl, hb⟩ := hcut
  obtain ⟨w3, hwn⟩ : ∃ W : World, W = wc := ⟨_, rfl⟩
  subst hwn
  replace D := Lib.hid (chain D.out hb)
  replace R0 := Lib.hid (R0.out.step hb)
  replace R1 := Lib.hid (R1.out.step hb)
  replace B0 := Lib.hid (B0.out.step hb)
  replace B1 := Lib.hid (B1.out.step hb)
  clear hb
  generalize w3 = v4 at *
  have E := Lib.hid (Below.refl v4.heap.size v4)
  have B0c0 := (B0.out.step E.out).m0
  have B0c1 := (B0.out.step E.out).m1
  have B0c2 := (B0.out.step E.out).m2
  have B0lt := (B0.out.step E.out).lt
  have B1c0 := (B1.out.step E.out).c0
  have B1c1 := (B1.out.step E.out).c1
  have B1lt := (B1.out.step E.out).lt
  go_wp2_with fail
  clear B0c0 B0c1 B0c2 B0lt B1c0 B1c1 B1lt
  refine (toRanks_any h0 l0 a0 z0 c0 _ (R0.out.step E.out) S0.out).mono ?_
  rintro e w4 ⟨rfl, hz, hrow, hb⟩
  obtain ⟨g0, hg0⟩ : ∃ g, v4.heap.size + 3 = g := ⟨_, rfl⟩
  rw [hg0] at hrow ⊢
  have hlo : v4.heap.size ≤ g0 := by omega
  replace E := Lib.hid (chain E.out hb)
  have X0 := Lib.hid hrow
  have G0 := Lib.hid (show v4.heap.size ≤ g0 ∧ g0 + 1 ≤ w4.heap.size from ⟨hlo, by omega⟩)
  clear hb hrow hz hg0 hlo
  have B0c0 := (B0.out.step E.out).m0
  have B0c1 := (B0.out.step E.out).m1
  have B0c2 := (B0.out.step E.out).m2
  have B0lt := (B0.out.step E.out).lt
  have B1c0 := (B1.out.step E.out).c0
  have B1c1 := (B1.out.step E.out).c1
  have B1lt := (B1.out.step E.out).lt
  go_wp2_with fail
  clear B0c0 B0c1 B0c2 B0lt B1c0 B1c1 B1lt
  have hsz : w4.heap.size ≤ (w4.alloc (.cells #[.int .i64 h0, .int .i64 l0, .slice (some ⟨g0, 0, none⟩) z0.length z0.length] 27)).heap.size := by simp
  replace G0 := Lib.hid (show v4.heap.size ≤ g0 ∧ g0 + 1 ≤ (w4.alloc (.cells #[.int .i64 h0, .int .i64 l0, .slice (some ⟨g0, 0, none⟩) z0.length z0.length] 27)).heap.size from ⟨G0.out.1, Nat.le_trans G0.out.2 hsz⟩)
  have HPX0 := Lib.hid (show v4.heap.size ≤ w4.heap.size from E.out.size)
  clear hsz
  have hb := (Below.refl w4.heap.size w4).alloc (Nat.le_refl _) (.cells #[.int .i64 h0, .int .i64 l0, .slice (some ⟨g0, 0, none⟩) z0.length z0.length] 27)
  have ha : Boxes (w4.alloc (.cells #[.int .i64 h0, .int .i64 l0, .slice (some ⟨g0, 0, none⟩) z0.length z0.length] 27)) w4.heap.size 27 #[.int .i64 h0, .int .i64 l0, .slice (some ⟨g0, 0, none⟩) z0.length z0.length] := World.alloc_heap_new w4 _
  generalize w4.alloc (.cells #[.int .i64 h0, .int .i64 l0, .slice (some ⟨g0, 0, none⟩) z0.length z0.length] 27) = y0 at *
  replace E := Lib.hid (chain E.out hb)
  replace X0 := Lib.hid (X0.out.step hb)
  have PX0 := Lib.hid ha
  clear hb ha
  generalize w4.heap.size = px0 at *
  refine (toFamily_any h1 a1 z1 c1 _ (R1.out.step E.out) S1.out).mono ?_
  rintro e w5 ⟨rfl, hz, hrow, hb⟩
  obtain ⟨g1, hg1⟩ : ∃ g, y0.heap.size + 3 = g := ⟨_, rfl⟩
  rw [hg1] at hrow ⊢
  have hlo : v4.heap.size ≤ g1 := by have := G0.out; omega
  replace E := Lib.hid (chain E.out hb)
  replace X0 := Lib.hid (X0.out.step hb)
  replace PX0 := Lib.hid (PX0.out.step hb)
  have X1 := Lib.hid hrow
  have G1 := Lib.hid (show v4.heap.size ≤ g1 ∧ g1 + 1 + z1.length ≤ w5.heap.size from ⟨hlo, by omega⟩)
  have GG1 := Lib.hid (show g0 + 1 ≤ g1 by have := G0.out; omega)
  clear hb hrow hz hg1 hlo
  have B0c0 := (B0.out.step E.out).m0
  have B0c1 := (B0.out.step E.out).m1
  have B0c2 := (B0.out.step E.out).m2
  have B0lt := (B0.out.step E.out).lt
  have B1c0 := (B1.out.step E.out).c0
  have B1c1 := (B1.out.step E.out).c1
  have B1lt := (B1.out.step E.out).lt
  have PX0c0 := (PX0.out).m0
  have PX0c1 := (PX0.out).m1
  have PX0c2 := (PX0.out).m2
  have PX0lt := (PX0.out).lt
  go_wp2_with fail
  clear B0c0 B0c1 B0c2 B0lt B1c0 B1c1 B1lt PX0c0 PX0c1 PX0c2 PX0lt
  have HPQ1 := Lib.hid (show g0 + 1 ≤ w5.heap.size by have := GG1.out; have := G1.out; omega)
  have hsz : w5.heap.size ≤ (w5.alloc (.cells #[.int .i64 h1, .slice (some ⟨g1, 0, none⟩) z1.length z1.length] 37)).heap.size := by simp
  replace G1 := Lib.hid (show v4.heap.size ≤ g1 ∧ g1 + 1 + z1.length ≤ (w5.alloc (.cells #[.int .i64 h1, .slice (some ⟨g1, 0, none⟩) z1.length z1.length] 37)).heap.size from ⟨G1.out.1, Nat.le_trans G1.out.2 hsz⟩)
  have HPX1 := Lib.hid (show v4.heap.size ≤ w5.heap.size from E.out.size)
  clear hsz
  have hb := (Below.refl w5.heap.size w5).alloc (Nat.le_refl _) (.cells #[.int .i64 h1, .slice (some ⟨g1, 0, none⟩) z1.length z1.length] 37)
  have ha : Boxes (w5.alloc (.cells #[.int .i64 h1, .slice (some ⟨g1, 0, none⟩) z1.length z1.length] 37)) w5.heap.size 37 #[.int .i64 h1, .slice (some ⟨g1, 0, none⟩) z1.length z1.length] := World.alloc_heap_new w5 _
  generalize w5.alloc (.cells #[.int .i64 h1, .slice (some ⟨g1, 0, none⟩) z1.length z1.length] 37) = y1 at *
  replace E := Lib.hid (chain E.out hb)
  replace X0 := Lib.hid (X0.out.step hb)
  replace PX0 := Lib.hid (PX0.out.step hb)
  replace X1 := Lib.hid (X1.out.step hb)
  have PX1 := Lib.hid ha
  clear hb ha
  generalize w5.heap.size = px1 at *
  refine (HIM.out _ _ _ _ y1 X0.out.rows S0.out X1.out.rows S1.out).mono ?_
  rintro e w6 ⟨rfl, hb⟩
  replace E := Lib.hid (chain E.out hb)
  replace X0 := Lib.hid (X0.out.step hb)
  replace PX0 := Lib.hid (PX0.out.step hb)
  replace X1 := Lib.hid (X1.out.step hb)
  replace PX1 := Lib.hid (PX1.out.step hb)
  clear hb
  have B0c0 := (B0.out.step E.out).m0
  have B0c1 := (B0.out.step E.out).m1
  have B0c2 := (B0.out.step E.out).m2
  have B0lt := (B0.out.step E.out).lt
  have B1c0 := (B1.out.step E.out).c0
  have B1c1 := (B1.out.step E.out).c1
  have B1lt := (B1.out.step E.out).lt
  have PX0c0 := (PX0.out).m0
  have PX0c1 := (PX0.out).m1
  have PX0c2 := (PX0.out).m2
  have PX0lt := (PX0.out).lt
  have PX1c0 := (PX1.out).c0
  have PX1c1 := (PX1.out).c1
  have PX1lt := (PX1.out).lt
  go_wp2_with fail
  clear B0c0 B0c1 B0c2 B0lt B1c0 B1c1 B1lt PX0c0 PX0c1 PX0c2 PX0lt PX1c0 PX1c1 PX1lt
  have K : Carry v4 g0 z0 px0 h0 l0 g1 z1 px1 h1 _ := ⟨E.out, X0.out, PX0.out, X1.out, PX1.out⟩
  have B0c0 := (B0.out.step E.out).m0
  have B0c1 := (B0.out.step E.out).m1
  have B0c2 := (B0.out.step E.out).m2
  have B0lt := (B0.out.step E.out).lt
  have PX0c0 := (PX0.out).m0
  have PX0c1 := (PX0.out).m1
  have PX0c2 := (PX0.out).m2
  have PX0lt := (PX0.out).lt
  go_wp2_with fail
  go_region_held3 (fun w' => w'.cell? ⟨w.heap.size, 0, none⟩ = some (.int .i64 h0) ∧ w'.cell? ⟨w.heap.size, 1, none⟩ = some (.int .i64 l0) ∧ w'.cell? ⟨w.heap.size, 2, none⟩ = some (.slice a0 z0.length c0) ∧ w'.cell? ⟨px0, 0, none⟩ = some (.int .i64 h0) ∧ w'.cell? ⟨px0, 1, none⟩ = some (.int .i64 l0) ∧ w'.cell? ⟨px0, 2, none⟩ = some (.slice (some ⟨g0, 0, none⟩) z0.length z0.length) ∧ Carry v4 g0 z0 px0 h0 l0 g1 z1 px1 h1 w') (first | exact ⟨cell_step (drew_step _) B0c0, cell_step (drew_step _) B0c1, cell_step (drew_step _) B0c2, cell_step (drew_step _) PX0c0, cell_step (drew_step _) PX0c1, cell_step (drew_step _) PX0c2, K.step (drew_step _)⟩ | exact keep6 hb (fun k => k.step hb) (by assumption)) (first | (go_at_call 10; obtain ⟨_, _, _, _, _, _, KK⟩ := ‹_ ∧ _ ∧ _ ∧ _ ∧ _ ∧ _ ∧ Carry v4 g0 z0 px0 h0 l0 g1 z1 px1 h1 _›; refine (toRanks_any h0 l0 a0 z0 c0 _ (R0.out.step KK.e) S0.out).mono ?_; rintro e wf ⟨rfl, -, hof, hb⟩; have hx1 := KK.x0.step hb; clear KK) | (go_at_call 12; refine (eqRanks_same h0 l0 _ _ z0 _ _ _ hx1.rows hof.rows S0.out.lens).mono ?_; rintro e w9 ⟨rfl, hb⟩))
  clear B0c0 B0c1 B0c2 B0lt PX0c0 PX0c1 PX0c2 PX0lt K hb hx1 hof
  obtain ⟨-, -, -, -, -, -, K⟩ := ‹_ ∧ _ ∧ _ ∧ _ ∧ _ ∧ _ ∧ Carry v4 g0 z0 px0 h0 l0 g1 z1 px1 h1 _›
  replace E := Lib.hid K.e
  replace X0 := Lib.hid K.x0
  replace PX0 := Lib.hid K.b0
  replace X1 := Lib.hid K.x1
  replace PX1 := Lib.hid K.b1
  clear K
  have K : Carry v4 g0 z0 px0 h0 l0 g1 z1 px1 h1 _ := ⟨E.out, X0.out, PX0.out, X1.out, PX1.out⟩
  have B1c0 := (B1.out.step E.out).c0
  have B1c1 := (B1.out.step E.out).c1
  have B1lt := (B1.out.step E.out).lt
  have PX1c0 := (PX1.out).c0
  have PX1c1 := (PX1.out).c1
  have PX1lt := (PX1.out).lt
  go_wp2_with fail
  go_region_held3 (fun w' => w'.cell? ⟨w.heap.size + 1, 0, none⟩ = some (.int .i64 h1) ∧ w'.cell? ⟨w.heap.size + 1, 1, none⟩ = some (.slice a1 z1.length c1) ∧ w'.cell? ⟨px1, 0, none⟩ = some (.int .i64 h1) ∧ w'.cell? ⟨px1, 1, none⟩ = some (.slice (some ⟨g1, 0, none⟩) z1.length z1.length) ∧ Carry v4 g0 z0 px0 h0 l0 g1 z1 px1 h1 w') (first | exact ⟨cell_step (drew_step _) B1c0, cell_step (drew_step _) B1c1, cell_step (drew_step _) PX1c0, cell_step (drew_step _) PX1c1, K.step (drew_step _)⟩ | exact keep4 hb (fun k => k.step hb) (by assumption)) (first | (go_at_call 15; obtain ⟨_, _, _, _, KK⟩ := ‹_ ∧ _ ∧ _ ∧ _ ∧ Carry v4 g0 z0 px0 h0 l0 g1 z1 px1 h1 _›; refine (toFamily_any h1 a1 z1 c1 _ (R1.out.step KK.e) S1.out).mono ?_; rintro e wf ⟨rfl, -, hof, hb⟩; have hx1 := KK.x1.step hb; clear KK) | (go_at_call 17; refine (eqFamily_same h1 _ _ z1 _ _ _ hx1.rows hof.rows S1.out.lens.1 S1.out.lens.2).mono ?_; rintro e w9 ⟨rfl, hb⟩))
  clear B1c0 B1c1 B1lt PX1c0 PX1c1 PX1lt K hb hx1 hof
  obtain ⟨-, -, -, -, K⟩ := ‹_ ∧ _ ∧ _ ∧ _ ∧ Carry v4 g0 z0 px0 h0 l0 g1 z1 px1 h1 _›
  replace E := Lib.hid K.e
  replace X0 := Lib.hid K.x0
  replace PX0 := Lib.hid K.b0
  replace X1 := Lib.hid K.x1
  replace PX1 := Lib.hid K.b1
  clear K
  have B0c0 := (B0.out.step E.out).m0
  have B0c1 := (B0.out.step E.out).m1
  have B0c2 := (B0.out.step E.out).m2
  have B0lt := (B0.out.step E.out).lt
  have B1c0 := (B1.out.step E.out).c0
  have B1c1 := (B1.out.step E.out).c1
  have B1lt := (B1.out.step E.out).lt
  have PX0c0 := (PX0.out).m0
  have PX0c1 := (PX0.out).m1
  have PX0c2 := (PX0.out).m2
  have PX0lt := (PX0.out).lt
  have PX1c0 := (PX1.out).c0
  have PX1c1 := (PX1.out).c1
  have PX1lt := (PX1.out).lt
  go_wp2_with fail
  clear B0c0 B0c1 B0c2 B0lt B1c0 B1c1 B1lt PX0c0 PX0c1 PX0c2 PX0lt PX1c0 PX1c1 PX1lt
  go_ret
  exact ⟨rfl, D.out.trans (E.out.mono D.out.size)⟩
end Fits
end Go.Proofs.YtdfggbojccfblaaDoor

namespace Go.Proofs.YtdfggbojccfblaaDoor
open Go.ChangeShapes Go.WideShapes Go.ChangeAt Go.RowKit Go.Deep
set_option linter.unusedVariables false
namespace Fits

theorem law (h0 l0 : Int) (a0 : Option Addr) (z0 : List Int) (c0 : Nat) (h1 : Int) (a1 : Option Addr) (z1 : List (List Int)) (c1 : Nat) (w : World) (hr0 : Ints w a0 z0) (hl0 : LenI z0) (wfh0 : (Lit.int .i64 h0).wf = true) (wfl0 : (Lit.int .i64 l0).wf = true) (hr1 : Rows2 w a1 z1) (hl1 : Lens z1) (wfh1 : (Lit.int .i64 h1).wf = true) :
    Calls Tryd.prog 4 #[.agg #[.int .i64 h0, .int .i64 l0, .slice a0 z0.length c0], .agg #[.int .i64 h1, .slice a1 z1.length c1]] w fun e w' => e = .returned (.bool true) ∧ Below w.heap.size w w' :=
  law_of h0 l0 a0 z0 c0 h1 a1 z1 c1 (fitB h0 l0 z0 h1 z1) (bothC h0 l0 z0 h1 z1) w hr0 hl0 wfh0 wfl0 hr1 hl1 wfh1  (fun _ _ _ _ W r0 s0 r1 s1 => specFits_any h0 l0 _ z0 _ h1 _ z1 _ W r0 s0.lens r1 s1.lens) (fun _ _ _ _ W r0 s0 r1 s1 => implFits_any h0 l0 _ z0 _ h1 _ z1 _ W r0 s0.lens r1 s1)
theorem door_met (os : Os) (args : Array Value) : laidMetH Tryd.prog Rows.fnExactFitsFamilyRow.laid ((World.doorLaid Tryd.prog 62 os).forCall (fun _ _ => 0) ⟨#[], args, []⟩).memory :=
  laidMetH_of_parts3 (fuel := 8) (laidMet_of_run' 8 (by kernel_rfl) (by kernel_rfl)) (by kernel_rfl) (by kernel_rfl)

set_option maxRecDepth 100000 in
set_option maxHeartbeats 100000000 in
theorem lifted (os : Os) (started : os.Started) (H : Type) (enc : TypeId × Value → H) :
    ReturnsInHanded {} Tryd.checked os 4 .any (fun w args => (Rows.fnExactFitsFamilySpec.pre enc Tryd.prog Tryd.f4 [] false w args ∧ laidMetH Tryd.prog Rows.fnExactFitsFamilyRow.laid w) ∧ sizedMet enc Tryd.prog Tryd.f4 (OpenSpec.ofChange Rows.fnExactFitsFamilySpec) false w args)
      (Rows.fnExactFitsFamilySpec.post enc Tryd.prog Tryd.f4 false true false false) := by
  refine returnsInHanded_of_change_and (C := Tryd.checked) (X := fun w _ => laidMetH Tryd.prog Rows.fnExactFitsFamilyRow.laid w) (fun _ _ _ hh h => h.of_heap hh) CardP.own started (by kernel_rfl) Tryd.func4
    (ChangeSpec.witness_shaped (enc := enc) (C := Tryd.checked) (os := os) (X := fun w _ => laidMetH Tryd.prog Rows.fnExactFitsFamilyRow.laid w) false (World.doorLaid Tryd.prog 62 os) #[.agg #[.int .i64 0, .int .i64 0, .slice none 0 0], .agg #[.int .i64 0, .slice none 0 0]] 8 rfl (World.shaped_of_RefB (by kernel_rfl) (by kernel_rfl)) (by kernel_rfl) (by kernel_rfl) (by kernel_rfl) (door_met os _)) ?_
  intro W base args ds gs before hval0 hW _ _ hL _
  have hval : ∀ (j : Nat) t v, Tryd.f4.params[j]? = some t → args[j]? = some v → Value.okWide Tryd.prog W .any base t v := hval0
  have hW' := hW
  obtain ⟨p, q, hA0, hV, rfl, hfz, hnd⟩ := hW
  have hA : DataW.TrodAll enc Tryd.prog W 0 (fun _ => true) true Tryd.f4.params.toList args.toList ds p := hA0
  rw [Tryd.params4] at hA hval
  obtain ⟨v0, vs0, d0, ds0, p0, q0, hargs, rfl, rfl, h0, r0⟩ := trodAll_cons hA
  obtain ⟨v1, vs1, d1, ds1, p1, q1, rfl, rfl, rfl, h1, r1⟩ := trodAll_cons r0
  obtain ⟨rfl, rfl, rfl⟩ := trodAll_nil r1
  obtain rfl : args = #[v0, v1] := by cases args; simp_all
  obtain ⟨rfl, rfl⟩ := trodVars_none hV
  have k0 := h0
  have lt0 : ∀ x ∈ p0, x.block < W.heap.size := by obtain ⟨m, hm⟩ := k0; exact DataW.trod_lt m _ _ _ hm
  obtain ⟨hh0, kk0, a0, z0, c0, rfl, rr0, ll0, wf0, wg0⟩ := open_rk (hval 0 24 v0 rfl rfl) h0
  have k1 := h1
  have lt1 : ∀ x ∈ p1, x.block < W.heap.size := by obtain ⟨m, hm⟩ := k1; exact DataW.trod_lt m _ _ _ hm
  obtain ⟨hh1, a1, z1, c1, rfl, rr1, ll1, wf1⟩ := open_fam (hval 1 33 v1 rfl rfl) h1
  clear hA0 hval0
  refine (law hh0 kk0 a0 z0 c0 hh1 a1 z1 c1 W rr0 ll0 wf0 wg0 rr1 ll1 wf1).mono fun e W' ⟨he, bel⟩ => ?_
  subst he
  exact ⟨_, rfl, _, _, _, [], _, [], hW', trodAll_mk1 (shut_bool Tryd.underlying4 _), (trodAll_cons_mk (Below.trod CardP.laidOut (by kernel_rfl) (of_decide_eq_true (by kernel_rfl)) k0 bel lt0) (trodAll_cons_mk (Below.trod CardP.laidOut (by kernel_rfl) (of_decide_eq_true (by kernel_rfl)) k1 bel lt1) trodAll_mk0)), rfl, bel.frame _, fun h => by cases h⟩


end Fits
end Go.Proofs.YtdfggbojccfblaaDoor

namespace Go.Proofs.YtdfggbojccfblaaDoor
open Go.ChangeShapes Go.WideShapes Go.ChangeAt Go.RowKit Go.Deep
set_option linter.unusedVariables false
namespace Fits

theorem over : Rows.fnExactFitsFamilyRow.holds Tryd.pinned (OpenSpec.ofChange Rows.fnExactFitsFamilySpec) :=
  OpenClaim.holds_of_wide 4 Tryd.f4 rfl rfl rfl rfl rfl rfl rfl ⟨rfl, rfl, rfl, rfl, rfl⟩ rfl rfl rfl rfl rfl (by kernel_rfl) Tryd.func4 closed
    (of_decide_eq_true (by kernel_rfl)) (by unfold Func.isWrapper; first | (rw [if_pos (by decide +kernel)]; kernel_rfl) | (rw [if_neg (by decide +kernel)]; exact ⟨rfl, rfl⟩))
    (fun os started H enc _ => lifted os started H enc)

theorem said : Rows.FnExactFitsFamilySaid := over

end Fits
end Go.Proofs.YtdfggbojccfblaaDoor

namespace Go.Proofs.YtdfggbojccfblaaDoor
open Go.ChangeShapes Go.WideShapes Go.ChangeAt Go.RowKit Go.Deep
set_option linter.unusedVariables false
namespace Fits

theorem plain (f : FuncId) (fn : Func) (hf : Tryd.pinned.checked.prog.funcNamed "loop.example/g01117/laws.FnExactFitsFamily" = some f) (hfn : Tryd.pinned.checked.prog.funcs[f]? = some fn) :
    true = Tryd.pinned.checked.prog.looks [] ∧ ∀ (j : Nat) t, fn.params[j]? = some t → Tryd.pinned.checked.prog.wantsStandIn t = false := by
  obtain rfl : f = 4 := Option.some.inj (c_named.symm.trans hf) |>.symm
  obtain rfl : fn = Tryd.f4 := (Option.some.inj (Tryd.func4.symm.trans hfn)).symm
  refine ⟨CardP.looks, fun j t ht => ?_⟩
  rw [Tryd.params4] at ht
  have hm : t ∈ [24, 33] := by simpa using Array.mem_of_getElem? ht
  have hall := c_stand
  exact (show Tryd.prog.wantsStandIn t = false by simpa using List.all_eq_true.1 hall t hm)

theorem card : Rows.FnExactFitsFamilyCardSaid :=
  Claim7.holds_tied_plain_at .later [] _ _ _ _ said (fun _ h => by cases h) c_wf (fun _ h => by cases h) fnExactFitsFamily_row_tie rfl ⟨rfl, rfl⟩ c_main rfl plain c_goes

end Fits
end Go.Proofs.YtdfggbojccfblaaDoor

/- 'laws.FnExactSameGate': for every argument, valid or not, the program's function answers what the model's answers, and writes into nothing that it was given. No condition. -/
import Derived.Test.YtocnjojncmjfgaaTs
import Derived.Test.YtocnjojncmjfgaaTt
import Derived.Test.YtocnjojncmjfgaaTe
import Derived.Test.YtocnjojncmjfgaaSg
import Derived.Deep.RegionLaw
import Derived.Deep.RegionHeld3
import Derived.Deep.CutRange
import Derived.Deep.DrawnRows
namespace Go.Proofs.Ytocnjojncmjfgaa
open Go.ChangeShapes Go.WideShapes Go.ChangeAt Go.RowKit Go.Deep
set_option linter.unusedVariables false
namespace SameGate

set_option maxRecDepth 100000 in
set_option maxHeartbeats 8000000 in
theorem law (h1 l1 : Int) (a : Option Addr) (f : Fo) (c : Nat) (h2 l2 : Int) (b : Option Addr) (g : Fo) (d : Nat) (w : World) (hk1 : Kids w 0 a f) (hl1 : f.len ≤ 9223372036854775807) (hw1 : f.wide) (hk2 : Kids w 0 b g) (hl2 : g.len ≤ 9223372036854775807) (hw2 : g.wide) :
    Calls Try.prog 4 #[.agg #[.int .i64 h1, .int .i64 l1, .slice a f.len c], .agg #[.int .i64 h2, .int .i64 l2, .slice b g.len d]] w fun e w' => e = .returned (.bool true) ∧ Below w.heap.size w w' := by
  have HK1 := Lib.hid hk1
  have HL1 := Lib.hid hl1
  have HW1 := Lib.hid hw1
  have HK2 := Lib.hid hk2
  have HL2 := Lib.hid hl2
  have HW2 := Lib.hid hw2
  clear hk1 hl1 hw1 hk2 hl2 hw2
  go_enter Try.func4, Try.ntmps4
  go_wp2_with fail
  have hb1 := ((Below.refl w.heap.size w).alloc (Nat.le_refl _) (.cells #[.int .i64 h1, .int .i64 l1, .slice a f.len c] 24)).alloc (by simp) (.cells #[.int .i64 h2, .int .i64 l2, .slice b g.len d] 24)
  have hx1 : Boxes ((w.alloc (.cells #[.int .i64 h1, .int .i64 l1, .slice a f.len c] 24)).alloc (.cells #[.int .i64 h2, .int .i64 l2, .slice b g.len d] 24)) w.heap.size 24 #[.int .i64 h1, .int .i64 l1, .slice a f.len c] := Boxes.step (World.alloc_heap_new w _) ((Below.refl _ _).alloc (Nat.le_refl _) (.cells #[.int .i64 h2, .int .i64 l2, .slice b g.len d] 24))
  have hy1 : Boxes ((w.alloc (.cells #[.int .i64 h1, .int .i64 l1, .slice a f.len c] 24)).alloc (.cells #[.int .i64 h2, .int .i64 l2, .slice b g.len d] 24)) (w.heap.size + 1) 24 #[.int .i64 h2, .int .i64 l2, .slice b g.len d] := by
    have h : Boxes ((w.alloc (.cells #[.int .i64 h1, .int .i64 l1, .slice a f.len c] 24)).alloc (.cells #[.int .i64 h2, .int .i64 l2, .slice b g.len d] 24)) (w.alloc (.cells #[.int .i64 h1, .int .i64 l1, .slice a f.len c] 24)).heap.size 24 #[.int .i64 h2, .int .i64 l2, .slice b g.len d] := World.alloc_heap_new _ _
    simp only [World.size_alloc] at h
    exact h
  refine (szGate_of h1 l1 0 a f c 1048576 _ (fun W hW => szGateS_any f.size f (Nat.le_refl _) 0 a c 1048576 W hW HL1.out HW1.out (by omega) (by omega)) (HK1.out.below hb1 (Nat.le_refl _))).mono ?_
  generalize ((w.alloc (.cells #[.int .i64 h1, .int .i64 l1, .slice a f.len c] 24)).alloc (.cells #[.int .i64 h2, .int .i64 l2, .slice b g.len d] 24)) = w1 at *
  rintro e w2 ⟨⟨v, hv, rfl⟩, hb2⟩
  have HX := Lib.hid (hx1.step hb2)
  have HY := Lib.hid (hy1.step hb2)
  have HC := Lib.hid (hb1.trans (hb2.mono hb1.size))
  clear hx1 hy1 hb1 hb2
  rcases hv with rfl | ⟨h0, hs1⟩
  · go_wp2_with fail
    go_ret
    exact ⟨rfl, HC.out⟩
  have x4 := HX.out.g0
  have y4 := HY.out.g0
  have x5 := HX.out.g1
  have y5 := HY.out.g1
  have x6 := HX.out.g2
  have y6 := HY.out.g2
  have lx := HX.out.lt
  have ly := HY.out.lt
  go_wp2_with fail
  refine (szGate_of h2 l2 0 b g d v _ (fun W hW => szGateS_any g.size g (Nat.le_refl _) 0 b d v W hW HL2.out HW2.out h0 (by omega)) (HK2.out.below HC.out (Nat.le_refl _))).mono ?_
  clear x4 x5 x6 y4 y5 y6 lx ly
  rintro e w3 ⟨⟨u, hu, rfl⟩, hb3⟩
  replace HX := Lib.hid (HX.out.step hb3)
  replace HY := Lib.hid (HY.out.step hb3)
  replace HC := Lib.hid (HC.out.trans (hb3.mono HC.out.size))
  clear hb3
  rcases hu with rfl | ⟨h3, hs2⟩
  · go_wp2_with fail
    go_ret
    exact ⟨rfl, HC.out⟩
  have hf2 : f.size ≤ 1048576 := by omega
  have hg2 : g.size ≤ 1048576 := by omega
  clear hs1 hs2
  have x4 := HX.out.g0
  have y4 := HY.out.g0
  have x5 := HX.out.g1
  have y5 := HY.out.g1
  have x6 := HX.out.g2
  have y6 := HY.out.g2
  have lx := HX.out.lt
  have ly := HY.out.lt
  go_wp2_with fail
  clear h0 h3
  go_cut [6] from 20 to 24 (fun s6 wr => s6 = .bool (tell (h1 = h2 ∧ l1 = l2 ∧ f = g)) ∧ Below w.heap.size w wr ∧ Boxes wr w.heap.size 24 #[.int .i64 h1, .int .i64 l1, .slice a f.len c] ∧ Boxes wr (w.heap.size + 1) 24 #[.int .i64 h2, .int .i64 l2, .slice b g.len d])
  case first =>
    go_region_law ((first | (go_simp; go_at_call_of 10 h1; refine (toGate_of h1 l1 0 a f c _ (fun W hW => toGateS_any 1048577 f (by omega) (by omega) 0 a c W hW) (by first | exact HK1.out.below HC.out (Nat.le_refl _) | exact HK1.out.below HC.out.drew (Nat.le_refl _))).mono ?_; rintro e w5 ⟨⟨a3, c3, rfl, k3⟩, hb5⟩; replace HC := Lib.hid (show Below w.heap.size w w5 by first | exact HC.out.trans (hb5.mono HC.out.size) | exact HC.out.drew.trans (hb5.mono HC.out.size)); replace HX := Lib.hid (show Boxes w5 w.heap.size 24 #[.int .i64 h1, .int .i64 l1, .slice a f.len c] by first | exact HX.out.step hb5 | exact (HX.out.step (drew_step _)).step hb5); replace HY := Lib.hid (show Boxes w5 (w.heap.size + 1) 24 #[.int .i64 h2, .int .i64 l2, .slice b g.len d] by first | exact HY.out.step hb5 | exact (HY.out.step (drew_step _)).step hb5); have x4 := HX.out.g0; have y4 := HY.out.g0; have x5 := HX.out.g1; have y5 := HY.out.g1; have x6 := HX.out.g2; have y6 := HY.out.g2; have lx := HX.out.lt; have ly := HY.out.lt; (try replace K4 := Lib.hid (show Kids w5 0 a4 g by first | exact K4.out.step hb5 | exact (K4.out.step (drew_step _)).step hb5)); have K3 := Lib.hid (k3.mono (Nat.zero_le _)); clear k3 hb5) | (go_simp; go_at_call_of 10 h2; refine (toGate_of h2 l2 0 b g d _ (fun W hW => toGateS_any 1048577 g (by omega) (by omega) 0 b d W hW) (by first | exact HK2.out.below HC.out (Nat.le_refl _) | exact HK2.out.below HC.out.drew (Nat.le_refl _))).mono ?_; rintro e w6 ⟨⟨a4, c4, rfl, k4⟩, hb6⟩; replace HC := Lib.hid (show Below w.heap.size w w6 by first | exact HC.out.trans (hb6.mono HC.out.size) | exact HC.out.drew.trans (hb6.mono HC.out.size)); replace HX := Lib.hid (show Boxes w6 w.heap.size 24 #[.int .i64 h1, .int .i64 l1, .slice a f.len c] by first | exact HX.out.step hb6 | exact (HX.out.step (drew_step _)).step hb6); replace HY := Lib.hid (show Boxes w6 (w.heap.size + 1) 24 #[.int .i64 h2, .int .i64 l2, .slice b g.len d] by first | exact HY.out.step hb6 | exact (HY.out.step (drew_step _)).step hb6); have x4 := HX.out.g0; have y4 := HY.out.g0; have x5 := HX.out.g1; have y5 := HY.out.g1; have x6 := HX.out.g2; have y6 := HY.out.g2; have lx := HX.out.lt; have ly := HY.out.lt; (try replace K3 := Lib.hid (show Kids w6 0 a3 f by first | exact K3.out.step hb6 | exact (K3.out.step (drew_step _)).step hb6)); have K4 := Lib.hid (k4.mono (Nat.zero_le _)); clear k4 hb6) | (go_simp; go_at_call 13; refine (specSg_any h1 l1 h2 l2 f g (by omega) (by omega) 0 0 a3 a4 c3 c4 _ (by first | exact K3.out | exact K3.out.step (drew_step _)) (by first | exact K4.out | exact K4.out.step (drew_step _))).mono ?_; rintro e w7 ⟨rfl, hb7⟩; replace HC := Lib.hid (show Below w.heap.size w w7 by first | exact HC.out.trans (hb7.mono HC.out.size) | exact HC.out.drew.trans (hb7.mono HC.out.size)); replace HX := Lib.hid (show Boxes w7 w.heap.size 24 #[.int .i64 h1, .int .i64 l1, .slice a f.len c] by first | exact HX.out.step hb7 | exact (HX.out.step (drew_step _)).step hb7); replace HY := Lib.hid (show Boxes w7 (w.heap.size + 1) 24 #[.int .i64 h2, .int .i64 l2, .slice b g.len d] by first | exact HY.out.step hb7 | exact (HY.out.step (drew_step _)).step hb7); clear hb7)))
    all_goals (go_wp2_with fail; go_meet; exact ⟨rfl, by first | exact HC.out | exact HC.out.drew, by first | exact HX.out | exact HX.out.step (drew_step _), by first | exact HY.out | exact HY.out.step (drew_step _)⟩)
  case rest =>
  obtain ⟨rfl, hb4, hx4, hy4⟩ := hcut
  obtain ⟨w4, hwn⟩ : ∃ W : World, W = wc := ⟨_, rfl⟩
  subst hwn
  clear x4 x5 x6 y4 y5 y6 lx ly
  replace HC := Lib.hid hb4
  replace HX := Lib.hid hx4
  replace HY := Lib.hid hy4
  clear hb4 hx4 hy4
  have x4 := HX.out.g0
  have y4 := HY.out.g0
  have x5 := HX.out.g1
  have y5 := HY.out.g1
  have x6 := HX.out.g2
  have y6 := HY.out.g2
  have lx := HX.out.lt
  have ly := HY.out.lt
  go_wp2_with fail
  refine (toGate_of h1 l1 0 a f c _ (fun W hW => toGateS_any 1048577 f (by omega) (by omega) 0 a c W hW) (HK1.out.below HC.out (Nat.le_refl _))).mono ?_
  clear x4 x5 x6 y4 y5 y6 lx ly
  rintro e w5 ⟨⟨a5, c5, rfl, k5⟩, hb5⟩
  replace HX := Lib.hid (HX.out.step hb5)
  replace HY := Lib.hid (HY.out.step hb5)
  replace HC := Lib.hid (HC.out.trans (hb5.mono HC.out.size))
  clear hb5
  have x4 := HX.out.g0
  have y4 := HY.out.g0
  have x5 := HX.out.g1
  have y5 := HY.out.g1
  have x6 := HX.out.g2
  have y6 := HY.out.g2
  have lx := HX.out.lt
  have ly := HY.out.lt
  go_wp2_with fail
  have hb6 := (Below.refl w5.heap.size w5).alloc (Nat.le_refl _) (.cells #[.int .i64 h1, .int .i64 l1, .slice a5 f.len c5] 29)
  have hp6 : Boxes (w5.alloc (.cells #[.int .i64 h1, .int .i64 l1, .slice a5 f.len c5] 29)) w5.heap.size 29 #[.int .i64 h1, .int .i64 l1, .slice a5 f.len c5] := World.alloc_heap_new _ _
  clear x4 x5 x6 y4 y5 y6 lx ly
  replace HX := Lib.hid (HX.out.step hb6)
  replace HY := Lib.hid (HY.out.step hb6)
  replace HC := Lib.hid (HC.out.trans (hb6.mono HC.out.size))
  have K5 := Lib.hid ((k5.mono (Nat.zero_le _)).step hb6)
  refine (toGate_of h2 l2 0 b g d _ (fun W hW => toGateS_any 1048577 g (by omega) (by omega) 0 b d W hW) (HK2.out.below HC.out (Nat.le_refl _))).mono ?_
  generalize hw6 : w5.alloc (.cells #[.int .i64 h1, .int .i64 l1, .slice a5 f.len c5] 29) = w6 at *
  have HP := Lib.hid hp6
  clear hb6 hp6 hw6 k5
  rintro e w7 ⟨⟨a6, c6, rfl, k6⟩, hb7⟩
  replace HX := Lib.hid (HX.out.step hb7)
  replace HY := Lib.hid (HY.out.step hb7)
  replace HP := Lib.hid (HP.out.step hb7)
  replace HC := Lib.hid (HC.out.trans (hb7.mono HC.out.size))
  replace K5 := Lib.hid (K5.out.step hb7)
  clear hb7
  have x4 := HX.out.g0
  have y4 := HY.out.g0
  have x5 := HX.out.g1
  have y5 := HY.out.g1
  have x6 := HX.out.g2
  have y6 := HY.out.g2
  have lx := HX.out.lt
  have ly := HY.out.lt
  have p4 := HP.out.g0
  have p5 := HP.out.g1
  have p6 := HP.out.g2
  have lp := HP.out.lt
  go_wp2_with fail
  have hb8 := (Below.refl w7.heap.size w7).alloc (Nat.le_refl _) (.cells #[.int .i64 h2, .int .i64 l2, .slice a6 g.len c6] 29)
  have hq8 : Boxes (w7.alloc (.cells #[.int .i64 h2, .int .i64 l2, .slice a6 g.len c6] 29)) w7.heap.size 29 #[.int .i64 h2, .int .i64 l2, .slice a6 g.len c6] := World.alloc_heap_new _ _
  clear x4 x5 x6 y4 y5 y6 lx ly
  clear p4 p5 p6 lp
  replace HX := Lib.hid (HX.out.step hb8)
  replace HY := Lib.hid (HY.out.step hb8)
  replace HP := Lib.hid (HP.out.step hb8)
  replace HC := Lib.hid (HC.out.trans (hb8.mono HC.out.size))
  replace K5 := Lib.hid (K5.out.step hb8)
  have K6 := Lib.hid ((k6.mono (Nat.zero_le _)).step hb8)
  refine (implSg_any (f.size + 1) f g (Nat.lt_succ_self _) 0 0 h1 l1 h2 l2 a5 a6 c5 c6 _ hf2 hg2 K5.out K6.out).mono ?_
  generalize hw8 : w7.alloc (.cells #[.int .i64 h2, .int .i64 l2, .slice a6 g.len c6] 29) = w8 at *
  have HQ := Lib.hid hq8
  clear hb8 hq8 hw8 k6
  rintro e w9 ⟨rfl, hb9⟩
  replace HX := Lib.hid (HX.out.step hb9)
  replace HY := Lib.hid (HY.out.step hb9)
  replace HP := Lib.hid (HP.out.step hb9)
  replace HQ := Lib.hid (HQ.out.step hb9)
  replace HC := Lib.hid (HC.out.trans (hb9.mono HC.out.size))
  replace K5 := Lib.hid (K5.out.step hb9)
  replace K6 := Lib.hid (K6.out.step hb9)
  clear hb9
  generalize tell (h1 = h2 ∧ l1 = l2 ∧ f = g) = tb
  have x4 := HX.out.g0
  have y4 := HY.out.g0
  have x5 := HX.out.g1
  have y5 := HY.out.g1
  have x6 := HX.out.g2
  have y6 := HY.out.g2
  have lx := HX.out.lt
  have ly := HY.out.lt
  have p4 := HP.out.g0
  have p5 := HP.out.g1
  have p6 := HP.out.g2
  have lp := HP.out.lt
  go_wp2_with fail
  go_cut [39] from 35 to 38 (fun s39 wr => s39 = .bool false ∧ Below w.heap.size w wr ∧ Boxes wr (w.heap.size + 1) 24 #[.int .i64 h2, .int .i64 l2, .slice b g.len d] ∧ Boxes wr w7.heap.size 29 #[.int .i64 h2, .int .i64 l2, .slice a6 g.len c6] ∧ Kids wr 0 a6 g)
  case first =>
    go_region_law ((first | (go_simp; go_at_call 10; refine (toGate_of h1 l1 0 a f c _ (fun W hW => toGateS_any 1048577 f (by omega) (by omega) 0 a c W hW) (by first | exact HK1.out.below HC.out (Nat.le_refl _) | exact HK1.out.below HC.out.drew (Nat.le_refl _))).mono ?_; rintro e w11 ⟨⟨a7, c7, rfl, k7⟩, hb8⟩; replace HC := Lib.hid (show Below w.heap.size w w11 by first | exact HC.out.trans (hb8.mono HC.out.size) | exact HC.out.drew.trans (hb8.mono HC.out.size)); replace HP := Lib.hid (show Boxes w11 w5.heap.size 29 #[.int .i64 h1, .int .i64 l1, .slice a5 f.len c5] by first | exact HP.out.step hb8 | exact (HP.out.step (drew_step _)).step hb8); replace HY := Lib.hid (show Boxes w11 (w.heap.size + 1) 24 #[.int .i64 h2, .int .i64 l2, .slice b g.len d] by first | exact HY.out.step hb8 | exact (HY.out.step (drew_step _)).step hb8); replace HQ := Lib.hid (show Boxes w11 w7.heap.size 29 #[.int .i64 h2, .int .i64 l2, .slice a6 g.len c6] by first | exact HQ.out.step hb8 | exact (HQ.out.step (drew_step _)).step hb8); replace K6 := Lib.hid (show Kids w11 0 a6 g by first | exact K6.out.step hb8 | exact (K6.out.step (drew_step _)).step hb8); have z4 := HP.out.g0; have z5 := HP.out.g1; have z6 := HP.out.g2; have lz := HP.out.lt; replace K5 := Lib.hid (show Kids w11 0 a5 f by first | exact K5.out.step hb8 | exact (K5.out.step (drew_step _)).step hb8); have K7 := Lib.hid (k7.mono (Nat.zero_le _)); clear k7 hb8) | (go_simp; go_at_call 12; refine (eqGate_of h1 l1 0 0 a5 a7 f c5 c7 _ (fun W hW1 hW2 => eqGateS_any (f.size + 1) f (Nat.lt_succ_self _) 0 0 a5 a7 c5 c7 W HL1.out HW1.out hW1 hW2) (by first | exact K5.out | exact K5.out.step (drew_step _)) (by first | exact K7.out | exact K7.out.step (drew_step _))).mono ?_; rintro e w10 ⟨rfl, hb9⟩; replace HC := Lib.hid (show Below w.heap.size w w10 by first | exact HC.out.trans (hb9.mono HC.out.size) | exact HC.out.drew.trans (hb9.mono HC.out.size)); replace HY := Lib.hid (show Boxes w10 (w.heap.size + 1) 24 #[.int .i64 h2, .int .i64 l2, .slice b g.len d] by first | exact HY.out.step hb9 | exact (HY.out.step (drew_step _)).step hb9); replace HQ := Lib.hid (show Boxes w10 w7.heap.size 29 #[.int .i64 h2, .int .i64 l2, .slice a6 g.len c6] by first | exact HQ.out.step hb9 | exact (HQ.out.step (drew_step _)).step hb9); replace K6 := Lib.hid (show Kids w10 0 a6 g by first | exact K6.out.step hb9 | exact (K6.out.step (drew_step _)).step hb9); clear hb9)))
    all_goals (go_wp2_with fail; go_meet; exact ⟨rfl, by first | exact HC.out | exact HC.out.drew, by first | exact HY.out | exact HY.out.step (drew_step _), by first | exact HQ.out | exact HQ.out.step (drew_step _), by first | exact K6.out | exact K6.out.step (drew_step _)⟩)
  case rest =>
  obtain ⟨rfl, hb12, hy12, hq12, hk12⟩ := hcut
  obtain ⟨w12, hwn⟩ : ∃ W : World, W = wc := ⟨_, rfl⟩
  subst hwn
  clear x4 x5 x6 y4 y5 y6 lx ly p4 p5 p6 lp HP K5 HX
  replace HC := Lib.hid hb12
  replace HY := Lib.hid hy12
  replace HQ := Lib.hid hq12
  replace K6 := Lib.hid hk12
  clear hb12 hy12 hq12 hk12
  have y4 := HY.out.g0
  have y5 := HY.out.g1
  have y6 := HY.out.g2
  have ly := HY.out.lt
  have p4 := HQ.out.g0
  have p5 := HQ.out.g1
  have p6 := HQ.out.g2
  have lp := HQ.out.lt
  go_wp2_with fail
  go_region_law ((first | (go_simp; go_at_call 10; refine (toGate_of h2 l2 0 b g d _ (fun W hW => toGateS_any 1048577 g (by omega) (by omega) 0 b d W hW) (by first | exact HK2.out.below HC.out (Nat.le_refl _) | exact HK2.out.below HC.out.drew (Nat.le_refl _))).mono ?_; rintro e w11 ⟨⟨a7, c7, rfl, k7⟩, hb8⟩; replace HC := Lib.hid (show Below w.heap.size w w11 by first | exact HC.out.trans (hb8.mono HC.out.size) | exact HC.out.drew.trans (hb8.mono HC.out.size)); replace HQ := Lib.hid (show Boxes w11 w7.heap.size 29 #[.int .i64 h2, .int .i64 l2, .slice a6 g.len c6] by first | exact HQ.out.step hb8 | exact (HQ.out.step (drew_step _)).step hb8); have z4 := HQ.out.g0; have z5 := HQ.out.g1; have z6 := HQ.out.g2; have lz := HQ.out.lt; replace K6 := Lib.hid (show Kids w11 0 a6 g by first | exact K6.out.step hb8 | exact (K6.out.step (drew_step _)).step hb8); have K7 := Lib.hid (k7.mono (Nat.zero_le _)); clear k7 hb8) | (go_simp; go_at_call 12; refine (eqGate_of h2 l2 0 0 a6 a7 g c6 c7 _ (fun W hW1 hW2 => eqGateS_any (g.size + 1) g (Nat.lt_succ_self _) 0 0 a6 a7 c6 c7 W HL2.out HW2.out hW1 hW2) (by first | exact K6.out | exact K6.out.step (drew_step _)) (by first | exact K7.out | exact K7.out.step (drew_step _))).mono ?_; rintro e w10 ⟨rfl, hb9⟩; replace HC := Lib.hid (show Below w.heap.size w w10 by first | exact HC.out.trans (hb9.mono HC.out.size) | exact HC.out.drew.trans (hb9.mono HC.out.size)); clear hb9)))
  all_goals (
    go_wp2_with fail
    go_ret
    exact ⟨rfl, by first | exact HC.out | exact HC.out.drew⟩)

theorem own : ownKnob Try.prog.godebug = none := by kernel_rfl
theorem laidOut : laidOutB Try.prog = true := by kernel_rfl

set_option maxRecDepth 100000 in
theorem lifted (os : Os) (started : os.Started) (H : Type) (enc : TypeId × Value → H) :
    ReturnsInHanded {} Try.checked os 4 .any (Rows.fnExactSameGateSpec.pre6 enc Try.prog Try.f4 Rows.fnExactSameGateRow.domain false) (Rows.fnExactSameGateSpec.post enc Try.prog Try.f4 false true false false) := by
  refine returnsInHanded_of_change (C := Try.checked) own started (by kernel_rfl) Try.func4
    (ChangeSpec.witness6 (enc := enc) (C := Try.checked) false ⟨#[], #[.agg #[.int .i64 0, .int .i64 0, .slice none 0 0], .agg #[.int .i64 0, .int .i64 0, .slice none 0 0]], []⟩ 8 (by kernel_rfl) (by kernel_rfl) (by kernel_rfl) (by kernel_rfl)) ?_
  intro W base args ds gs before hval0 hW hcnd _
  have hval : ∀ (j : Nat) t v, Try.f4.params[j]? = some t → args[j]? = some v → Value.okWide Try.prog W .any base t v := hval0
  have hW' := hW
  obtain ⟨p, q, hA0, hV, rfl, hfz, hnd⟩ := hW
  have hA : DataW.TrodAll enc Try.prog W 0 (fun _ => true) true Try.f4.params.toList args.toList ds p := hA0
  rw [Try.params4] at hA hval
  obtain ⟨v0, vs0, d0, ds0, p0, q0, hargs, rfl, rfl, h0, r0⟩ := trodAll_cons hA
  obtain ⟨v1, vs1, d1, ds1, p1, q1, rfl, rfl, rfl, h1, r1⟩ := trodAll_cons r0
  obtain ⟨rfl, rfl, rfl⟩ := trodAll_nil r1
  obtain rfl : args = #[v0, v1] := by cases args; simp_all
  obtain ⟨rfl, rfl⟩ := trodVars_none hV
  have k0 := h0
  have lt0 : ∀ x ∈ p0, x.block < W.heap.size := by obtain ⟨m, hm⟩ := k0; exact DataW.trod_lt m _ _ _ hm
  obtain ⟨hh0, kk0, a0, z0, c0, rfl, rr0, ll0, ww0⟩ := open_gate (hval 0 24 v0 rfl rfl) h0
  have k1 := h1
  have lt1 : ∀ x ∈ p1, x.block < W.heap.size := by obtain ⟨m, hm⟩ := k1; exact DataW.trod_lt m _ _ _ hm
  obtain ⟨hh1, kk1, a1, z1, c1, rfl, rr1, ll1, ww1⟩ := open_gate (hval 1 24 v1 rfl rfl) h1
  clear hA0 hval0
  refine (law hh0 kk0 a0 z0 c0 hh1 kk1 a1 z1 c1 W rr0 ll0 ww0 rr1 ll1 ww1).mono fun e W' ⟨he, bel⟩ => ?_
  subst he
  exact ⟨_, rfl, _, _, _, [], _, [], hW', trodAll_mk1 (shut_bool Try.underlying4 _), (trodAll_cons_mk (Below.trod laidOut (by kernel_rfl) (of_decide_eq_true (by kernel_rfl)) k0 bel lt0) (trodAll_cons_mk (Below.trod laidOut (by kernel_rfl) (of_decide_eq_true (by kernel_rfl)) k1 bel lt1) trodAll_mk0)), rfl, bel.frame _, fun h => by cases h⟩

theorem over : Rows.fnExactSameGateRow.holds Try.pinned (OpenSpec.ofChange Rows.fnExactSameGateSpec) :=
  OpenClaim.holds_of_wide 4 Try.f4 rfl rfl rfl rfl rfl rfl rfl ⟨rfl, rfl, rfl, rfl, rfl⟩ rfl rfl rfl rfl rfl (by kernel_rfl) Try.func4 (by kernel_rfl)
    (of_decide_eq_true (by kernel_rfl)) (by unfold Func.isWrapper; first | (rw [if_pos (by decide +kernel)]; kernel_rfl) | (rw [if_neg (by decide +kernel)]; exact ⟨rfl, rfl⟩))
    (fun os started H enc _ => lifted os started H enc)

theorem proved : Rows.FnExactSameGateSaid := over

end SameGate
end Go.Proofs.Ytocnjojncmjfgaa

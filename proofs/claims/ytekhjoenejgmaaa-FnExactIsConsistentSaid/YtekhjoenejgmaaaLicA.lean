/- The walk of 'laws.FnExactIsConsistent', from what the two functions give. -/
import Derived.Test.YtekhjoenejgmaaaIcn
import Derived.Deep.RegionHeld3
import Derived.Deep.CutRange
namespace Go.Proofs.Ytekhjoenejgmaaa
open Go.ChangeShapes Go.WideShapes Go.ChangeAt Go.RowKit Go.Deep
set_option linter.unusedVariables false
namespace Icn

/-- What is carried over the second half. -/
structure Carry (v4 : World) (g0 : Nat) (yo0 : List Int) (z0 : List (List Int)) (px0 : Nat) (h0 : Int) (f0 : Int) (l0 : Int) (g1 : Nat) (z1 : List Int) (g2 : Nat) (z2 : List Int) (W : World) : Prop where
  e : Below v4.heap.size v4 W
  x0 : OwnS W g0 yo0 z0
  b0 : Boxes W px0 33 #[.int .i64 h0, .slice (some ⟨g0, 0, none⟩) yo0.length yo0.length, .int .i64 f0, .int .i64 l0, .slice (some ⟨g0 + 4, 0, none⟩) z0.length z0.length]
  x1 : OwnI W g1 (.slice (some ⟨g1, 0, none⟩) z1.length z1.length) z1
  x2 : OwnI W g2 (.slice (some ⟨g2, 0, none⟩) z2.length z2.length) z2

theorem Carry.step {v4 : World} {g0 : Nat} {yo0 : List Int} {z0 : List (List Int)} {px0 : Nat} {h0 : Int} {f0 : Int} {l0 : Int} {g1 : Nat} {z1 : List Int} {g2 : Nat} {z2 : List Int} {W W' : World} (hb : Below W.heap.size W W') (k : Carry v4 g0 yo0 z0 px0 h0 f0 l0 g1 z1 g2 z2 W) : Carry v4 g0 yo0 z0 px0 h0 f0 l0 g1 z1 g2 z2 W' := ⟨chain k.e hb, k.x0.step hb, k.b0.step hb, k.x1.step hb, k.x2.step hb⟩
theorem keep10 {w w' : World} {p1 p2 p3 p4 p5 p6 p7 p8 p9 p10 : Addr} {u1 u2 u3 u4 u5 u6 u7 u8 u9 u10 : Value} {C : World → Prop} (hb : Below w.heap.size w w') (hC : C w → C w') (h : w.cell? p1 = some u1 ∧ w.cell? p2 = some u2 ∧ w.cell? p3 = some u3 ∧ w.cell? p4 = some u4 ∧ w.cell? p5 = some u5 ∧ w.cell? p6 = some u6 ∧ w.cell? p7 = some u7 ∧ w.cell? p8 = some u8 ∧ w.cell? p9 = some u9 ∧ w.cell? p10 = some u10 ∧ C w) : w'.cell? p1 = some u1 ∧ w'.cell? p2 = some u2 ∧ w'.cell? p3 = some u3 ∧ w'.cell? p4 = some u4 ∧ w'.cell? p5 = some u5 ∧ w'.cell? p6 = some u6 ∧ w'.cell? p7 = some u7 ∧ w'.cell? p8 = some u8 ∧ w'.cell? p9 = some u9 ∧ w'.cell? p10 = some u10 ∧ C w' :=
  ⟨cell_step hb h.1, cell_step hb h.2.1, cell_step hb h.2.2.1, cell_step hb h.2.2.2.1, cell_step hb h.2.2.2.2.1, cell_step hb h.2.2.2.2.2.1, cell_step hb h.2.2.2.2.2.2.1, cell_step hb h.2.2.2.2.2.2.2.1, cell_step hb h.2.2.2.2.2.2.2.2.1, cell_step hb h.2.2.2.2.2.2.2.2.2.1, hC h.2.2.2.2.2.2.2.2.2.2⟩

set_option maxHeartbeats 4000000 in
set_option maxRecDepth 100000 in
theorem law_of (h0 f0 l0 : Int) (ao0 : Option Addr) (yo0 : List Int) (co0 : Nat) (a0 : Option Addr) (z0 : List (List Int)) (c0 : Nat) (a1 : Option Addr) (z1 : List Int) (c1 : Nat) (a2 : Option Addr) (z2 : List Int) (c2 : Nat) (rb : Bool) (rc : Int) (w : World) (hr0 : InS w ao0 yo0 a0 z0) (hl0 : LenS yo0 z0) (wfh0 : (Lit.int .i64 h0).wf = true) (wff0 : (Lit.int .i64 f0).wf = true) (wfl0 : (Lit.int .i64 l0).wf = true) (hr1 : Ints w a1 z1) (hl1 : z1.length ≤ 9223372036854775807) (hr2 : Ints w a2 z2) (hl2 : z2.length ≤ 9223372036854775807)
    
    (hS : ∀ (bo0 : Option Addr) (eo0 : Nat) (b0 : Option Addr) (d0 : Nat) (b1 : Option Addr) (d1 : Nat) (b2 : Option Addr) (d2 : Nat) (W : World), InS W bo0 yo0 b0 z0 → SmS yo0 z0 → Ints W b1 z1 → z1.length ≤ 1048576 → Ints W b2 z2 → z2.length ≤ 1048576 → Calls Try.prog 46 #[.agg #[.int .i64 h0, .slice bo0 yo0.length eo0, .int .i64 f0, .int .i64 l0, .slice b0 z0.length d0], .slice b1 z1.length d1, .slice b2 z2.length d2] W (fun e w' => e = .returned (.tuple #[.bool rb, .int .i64 rc]) ∧ Below W.heap.size W w'))
    (hI : ∀ (bo0 : Option Addr) (eo0 : Nat) (b0 : Option Addr) (d0 : Nat) (b1 : Option Addr) (d1 : Nat) (b2 : Option Addr) (d2 : Nat) (W : World), InS W bo0 yo0 b0 z0 → SmS yo0 z0 → Ints W b1 z1 → z1.length ≤ 1048576 → Ints W b2 z2 → z2.length ≤ 1048576 → Calls Try.prog 47 #[.agg #[.int .i64 h0, .slice bo0 yo0.length eo0, .int .i64 f0, .int .i64 l0, .slice b0 z0.length d0], .slice b1 z1.length d1, .slice b2 z2.length d2] W (fun e w' => e = .returned (.tuple #[.bool rb, .int .i64 rc]) ∧ Below W.heap.size W w'))
     :
    Calls Try.prog 12 #[.agg #[.int .i64 h0, .slice ao0 yo0.length co0, .int .i64 f0, .int .i64 l0, .slice a0 z0.length c0], .slice a1 z1.length c1, .slice a2 z2.length c2] w fun e w' => e = .returned (.bool true) ∧ Below w.heap.size w w' := by
  have HSP := Lib.hid hS
  have HIM := Lib.hid hI
  clear hS hI
  by_cases hbig1 : 1048576 < z1.length
  · have t1 : (1048576 : Int) < (z1.length : Int) := by omega
    go_enter Try.func12, Try.ntmps12
    go_wp2_with fail
    go_ret
    exact ⟨rfl, by first | exact Below.refl _ _ | go_grown⟩
  have hs1 : z1.length ≤ 1048576 := by omega
  clear hbig1
  by_cases hbig2 : 1048576 < z2.length
  · have t1 : (1048576 : Int) < (z2.length : Int) := by omega
    go_enter Try.func12, Try.ntmps12
    go_wp2_with fail
    go_ret
    exact ⟨rfl, by first | exact Below.refl _ _ | go_grown⟩
  have hs2 : z2.length ≤ 1048576 := by omega
  clear hbig2
  have D := Lib.hid (Below.refl w.heap.size w)
  have R0 := Lib.hid hr0
  clear hr0
  have L0 := Lib.hid hl0
  clear hl0
  have R1 := Lib.hid hr1
  clear hr1
  have R2 := Lib.hid hr2
  clear hr2
  go_enter Try.func12, Try.ntmps12
  go_wp2_with fail
  have hb := (Below.refl (w).heap.size (w)).alloc (Nat.le_refl _) (.cells #[.int .i64 h0, .slice ao0 yo0.length co0, .int .i64 f0, .int .i64 l0, .slice a0 z0.length c0] 27)
  have ha0 : Boxes ((w).alloc (.cells #[.int .i64 h0, .slice ao0 yo0.length co0, .int .i64 f0, .int .i64 l0, .slice a0 z0.length c0] 27)) (w).heap.size 27 #[.int .i64 h0, .slice ao0 yo0.length co0, .int .i64 f0, .int .i64 l0, .slice a0 z0.length c0] := World.alloc_heap_new _ _
  replace D := Lib.hid (chain D.out hb)
  replace R0 := Lib.hid (R0.out.step hb)
  replace R1 := Lib.hid (R1.out.step hb)
  replace R2 := Lib.hid (R2.out.step hb)
  clear hb
  skip
  generalize hv1 : (w).alloc (.cells #[.int .i64 h0, .slice ao0 yo0.length co0, .int .i64 f0, .int .i64 l0, .slice a0 z0.length c0] 27) = v1 at *
  have B0 := Lib.hid ha0
  clear ha0
  clear hv1
  refine (szScheme2_any h0 f0 l0 ao0 yo0 co0 a0 z0 c0 1048576 _ R0.out (by omega) (by omega) L0.out).mono ?_
  rintro e w1 ⟨⟨u0, hu0, rfl⟩, hb⟩
  replace D := Lib.hid (chain D.out hb)
  replace R0 := Lib.hid (R0.out.step hb)
  replace R1 := Lib.hid (R1.out.step hb)
  replace R2 := Lib.hid (R2.out.step hb)
  replace B0 := Lib.hid (B0.out.step hb)
  clear hb
  rcases hu0 with rfl | ⟨hu00, hut0, hu01, hsm0⟩
  · go_wp2_with fail
    go_ret
    exact ⟨rfl, D.out⟩
  have S0 := Lib.hid hsm0
  have hz0 : z0.length ≤ 1048576 := hsm0.r.1
  clear hsm0
  have TT0 := Lib.hid hut0
  clear hut0
  have B0c0 := (B0.out).s0
  have B0c1 := (B0.out).s1
  have B0c2 := (B0.out).s2
  have B0c3 := (B0.out).s3
  have B0c4 := (B0.out).s4
  have B0lt := (B0.out).lt
  go_wp2_with fail
  clear B0c0 B0c1 B0c2 B0c3 B0c4 B0lt
  refine (toScheme_any h0 f0 l0 ao0 yo0 co0 a0 z0 c0 _ R0.out S0.out).mono ?_
  rintro e w2 ⟨rfl, hz, hrow, hb⟩
  replace D := Lib.hid (chain D.out hb)
  replace R0 := Lib.hid (R0.out.step hb)
  replace R1 := Lib.hid (R1.out.step hb)
  replace R2 := Lib.hid (R2.out.step hb)
  replace B0 := Lib.hid (B0.out.step hb)
  have M0 := Lib.hid (hrow.rows)
  clear hb hrow hz
  have B0c0 := (B0.out).s0
  have B0c1 := (B0.out).s1
  have B0c2 := (B0.out).s2
  have B0c3 := (B0.out).s3
  have B0c4 := (B0.out).s4
  have B0lt := (B0.out).lt
  go_wp2_with fail
  clear B0c0 B0c1 B0c2 B0c3 B0c4 B0lt
  refine (toInt64S_any a1 z1 c1 _ R1.out hs1).mono ?_
  rintro e w3 ⟨rfl, hz, hrow, hb⟩
  replace D := Lib.hid (chain D.out hb)
  replace R0 := Lib.hid (R0.out.step hb)
  replace R1 := Lib.hid (R1.out.step hb)
  replace R2 := Lib.hid (R2.out.step hb)
  replace B0 := Lib.hid (B0.out.step hb)
  replace M0 := Lib.hid (M0.out.step hb)
  have M1 := Lib.hid (Ints.of_row hrow)
  clear hb hrow hz
  have B0c0 := (B0.out).s0
  have B0c1 := (B0.out).s1
  have B0c2 := (B0.out).s2
  have B0c3 := (B0.out).s3
  have B0c4 := (B0.out).s4
  have B0lt := (B0.out).lt
  go_wp2_with fail
  clear B0c0 B0c1 B0c2 B0c3 B0c4 B0lt
  refine (toInt64S_any a2 z2 c2 _ R2.out hs2).mono ?_
  rintro e w4 ⟨rfl, hz, hrow, hb⟩
  replace D := Lib.hid (chain D.out hb)
  replace R0 := Lib.hid (R0.out.step hb)
  replace R1 := Lib.hid (R1.out.step hb)
  replace R2 := Lib.hid (R2.out.step hb)
  replace B0 := Lib.hid (B0.out.step hb)
  replace M0 := Lib.hid (M0.out.step hb)
  replace M1 := Lib.hid (M1.out.step hb)
  have M2 := Lib.hid (Ints.of_row hrow)
  clear hb hrow hz
  have B0c0 := (B0.out).s0
  have B0c1 := (B0.out).s1
  have B0c2 := (B0.out).s2
  have B0c3 := (B0.out).s3
  have B0c4 := (B0.out).s4
  have B0lt := (B0.out).lt
  go_wp2_with fail
  clear B0c0 B0c1 B0c2 B0c3 B0c4 B0lt
  refine (HSP.out _ _ _ _ _ _ _ _ _ M0.out S0.out M1.out hs1 M2.out hs2).mono ?_
  rintro e w5 ⟨rfl, hb⟩
  replace D := Lib.hid (chain D.out hb)
  replace R0 := Lib.hid (R0.out.step hb)
  replace R1 := Lib.hid (R1.out.step hb)
  replace R2 := Lib.hid (R2.out.step hb)
  replace B0 := Lib.hid (B0.out.step hb)
  clear hb M0 M1 M2
  have B0c0 := (B0.out).s0
  have B0c1 := (B0.out).s1
  have B0c2 := (B0.out).s2
  have B0c3 := (B0.out).s3
  have B0c4 := (B0.out).s4
  have B0lt := (B0.out).lt
  go_wp2_with fail
  clear B0c0 B0c1 B0c2 B0c3 B0c4 B0lt
  generalize w5 = v4 at *
  have E := Lib.hid (Below.refl v4.heap.size v4)
  refine (toScheme_any h0 f0 l0 ao0 yo0 co0 a0 z0 c0 _ (R0.out.step E.out) S0.out).mono ?_
  rintro e w6 ⟨rfl, hz, hrow, hb⟩
  obtain ⟨g0, hg0⟩ : ∃ g, v4.heap.size + 3 = g := ⟨_, rfl⟩
  rw [hg0] at hrow ⊢
  have hlo : v4.heap.size ≤ g0 := by omega
  replace E := Lib.hid (chain E.out hb)
  have X0 := Lib.hid hrow
  have G0 := Lib.hid (show v4.heap.size ≤ g0 ∧ g0 + 5 + z0.length ≤ w6.heap.size from ⟨hlo, by omega⟩)
  clear hb hrow hz hg0 hlo
  have B0c0 := (B0.out.step E.out).s0
  have B0c1 := (B0.out.step E.out).s1
  have B0c2 := (B0.out.step E.out).s2
  have B0c3 := (B0.out.step E.out).s3
  have B0c4 := (B0.out.step E.out).s4
  have B0lt := (B0.out.step E.out).lt
  go_wp2_with fail
  clear B0c0 B0c1 B0c2 B0c3 B0c4 B0lt
  have hsz : w6.heap.size ≤ (w6.alloc (.cells #[.int .i64 h0, .slice (some ⟨g0, 0, none⟩) yo0.length yo0.length, .int .i64 f0, .int .i64 l0, .slice (some ⟨g0 + 4, 0, none⟩) z0.length z0.length] 33)).heap.size := by simp
  replace G0 := Lib.hid (show v4.heap.size ≤ g0 ∧ g0 + 5 + z0.length ≤ (w6.alloc (.cells #[.int .i64 h0, .slice (some ⟨g0, 0, none⟩) yo0.length yo0.length, .int .i64 f0, .int .i64 l0, .slice (some ⟨g0 + 4, 0, none⟩) z0.length z0.length] 33)).heap.size from ⟨G0.out.1, Nat.le_trans G0.out.2 hsz⟩)
  have HPX0 := Lib.hid (show v4.heap.size ≤ w6.heap.size from E.out.size)
  clear hsz
  have hb := (Below.refl w6.heap.size w6).alloc (Nat.le_refl _) (.cells #[.int .i64 h0, .slice (some ⟨g0, 0, none⟩) yo0.length yo0.length, .int .i64 f0, .int .i64 l0, .slice (some ⟨g0 + 4, 0, none⟩) z0.length z0.length] 33)
  have ha : Boxes (w6.alloc (.cells #[.int .i64 h0, .slice (some ⟨g0, 0, none⟩) yo0.length yo0.length, .int .i64 f0, .int .i64 l0, .slice (some ⟨g0 + 4, 0, none⟩) z0.length z0.length] 33)) w6.heap.size 33 #[.int .i64 h0, .slice (some ⟨g0, 0, none⟩) yo0.length yo0.length, .int .i64 f0, .int .i64 l0, .slice (some ⟨g0 + 4, 0, none⟩) z0.length z0.length] := World.alloc_heap_new w6 _
  generalize w6.alloc (.cells #[.int .i64 h0, .slice (some ⟨g0, 0, none⟩) yo0.length yo0.length, .int .i64 f0, .int .i64 l0, .slice (some ⟨g0 + 4, 0, none⟩) z0.length z0.length] 33) = y0 at *
  replace E := Lib.hid (chain E.out hb)
  replace X0 := Lib.hid (X0.out.step hb)
  have PX0 := Lib.hid ha
  clear hb ha
  generalize w6.heap.size = px0 at *
  refine (toInt64S_any a1 z1 c1 _ (R1.out.step E.out) hs1).mono ?_
  rintro e w7 ⟨rfl, hz, hrow, hb⟩
  obtain ⟨g1, hg1⟩ : ∃ g, y0.heap.size = g := ⟨_, rfl⟩
  rw [hg1] at hrow hz ⊢
  have hlo : v4.heap.size ≤ g1 := by have := G0.out; omega
  replace E := Lib.hid (chain E.out hb)
  replace X0 := Lib.hid (X0.out.step hb)
  replace PX0 := Lib.hid (PX0.out.step hb)
  have X1 := Lib.hid (own_of_row hrow (by unfold maxLen; omega))
  have G1 := Lib.hid (show v4.heap.size ≤ g1 ∧ g1 + 1 ≤ w7.heap.size from ⟨hlo, by omega⟩)
  have GG1 := Lib.hid (show g0 + 5 + z0.length ≤ g1 by have := G0.out; omega)
  clear hb hrow hz hg1 hlo
  have B0c0 := (B0.out.step E.out).s0
  have B0c1 := (B0.out.step E.out).s1
  have B0c2 := (B0.out.step E.out).s2
  have B0c3 := (B0.out.step E.out).s3
  have B0c4 := (B0.out.step E.out).s4
  have B0lt := (B0.out.step E.out).lt
  have PX0c0 := (PX0.out).s0
  have PX0c1 := (PX0.out).s1
  have PX0c2 := (PX0.out).s2
  have PX0c3 := (PX0.out).s3
  have PX0c4 := (PX0.out).s4
  have PX0lt := (PX0.out).lt
  go_wp2_with fail
  clear B0c0 B0c1 B0c2 B0c3 B0c4 B0lt PX0c0 PX0c1 PX0c2 PX0c3 PX0c4 PX0lt
  refine (toInt64S_any a2 z2 c2 _ (R2.out.step E.out) hs2).mono ?_
  rintro e w8 ⟨rfl, hz, hrow, hb⟩
  obtain ⟨g2, hg2⟩ : ∃ g, w7.heap.size = g := ⟨_, rfl⟩
  rw [hg2] at hrow hz ⊢
  have hlo : v4.heap.size ≤ g2 := by have := G1.out; omega
  replace E := Lib.hid (chain E.out hb)
  replace X0 := Lib.hid (X0.out.step hb)
  replace PX0 := Lib.hid (PX0.out.step hb)
  replace X1 := Lib.hid (X1.out.step hb)
  have X2 := Lib.hid (own_of_row hrow (by unfold maxLen; omega))
  have G2 := Lib.hid (show v4.heap.size ≤ g2 ∧ g2 + 1 ≤ w8.heap.size from ⟨hlo, by omega⟩)
  have GG2 := Lib.hid (show g1 + 1 ≤ g2 by have := G1.out; omega)
  clear hb hrow hz hg2 hlo
  have B0c0 := (B0.out.step E.out).s0
  have B0c1 := (B0.out.step E.out).s1
  have B0c2 := (B0.out.step E.out).s2
  have B0c3 := (B0.out.step E.out).s3
  have B0c4 := (B0.out.step E.out).s4
  have B0lt := (B0.out.step E.out).lt
  have PX0c0 := (PX0.out).s0
  have PX0c1 := (PX0.out).s1
  have PX0c2 := (PX0.out).s2
  have PX0c3 := (PX0.out).s3
  have PX0c4 := (PX0.out).s4
  have PX0lt := (PX0.out).lt
  go_wp2_with fail
  clear B0c0 B0c1 B0c2 B0c3 B0c4 B0lt PX0c0 PX0c1 PX0c2 PX0c3 PX0c4 PX0lt
  refine (HIM.out _ _ _ _ _ _ _ _ w8 X0.out.rows S0.out (Ints_of_own X1.out) hs1 (Ints_of_own X2.out) hs2).mono ?_
  rintro e w9 ⟨rfl, hb⟩
  replace E := Lib.hid (chain E.out hb)
  replace X0 := Lib.hid (X0.out.step hb)
  replace PX0 := Lib.hid (PX0.out.step hb)
  replace X1 := Lib.hid (X1.out.step hb)
  replace X2 := Lib.hid (X2.out.step hb)
  clear hb
  have B0c0 := (B0.out.step E.out).s0
  have B0c1 := (B0.out.step E.out).s1
  have B0c2 := (B0.out.step E.out).s2
  have B0c3 := (B0.out.step E.out).s3
  have B0c4 := (B0.out.step E.out).s4
  have B0lt := (B0.out.step E.out).lt
  have PX0c0 := (PX0.out).s0
  have PX0c1 := (PX0.out).s1
  have PX0c2 := (PX0.out).s2
  have PX0c3 := (PX0.out).s3
  have PX0c4 := (PX0.out).s4
  have PX0lt := (PX0.out).lt
  go_wp2_with fail
  clear B0c0 B0c1 B0c2 B0c3 B0c4 B0lt PX0c0 PX0c1 PX0c2 PX0c3 PX0c4 PX0lt
  have K : Carry v4 g0 yo0 z0 px0 h0 f0 l0 g1 z1 g2 z2 _ := ⟨E.out, X0.out, PX0.out, X1.out, X2.out⟩
  have B0c0 := (B0.out.step E.out).s0
  have B0c1 := (B0.out.step E.out).s1
  have B0c2 := (B0.out.step E.out).s2
  have B0c3 := (B0.out.step E.out).s3
  have B0c4 := (B0.out.step E.out).s4
  have B0lt := (B0.out.step E.out).lt
  have PX0c0 := (PX0.out).s0
  have PX0c1 := (PX0.out).s1
  have PX0c2 := (PX0.out).s2
  have PX0c3 := (PX0.out).s3
  have PX0c4 := (PX0.out).s4
  have PX0lt := (PX0.out).lt
  go_wp2_with fail
  go_region_held3 (fun w' => w'.cell? ⟨w.heap.size, 0, none⟩ = some (.int .i64 h0) ∧ w'.cell? ⟨w.heap.size, 1, none⟩ = some (.slice ao0 yo0.length co0) ∧ w'.cell? ⟨w.heap.size, 2, none⟩ = some (.int .i64 f0) ∧ w'.cell? ⟨w.heap.size, 3, none⟩ = some (.int .i64 l0) ∧ w'.cell? ⟨w.heap.size, 4, none⟩ = some (.slice a0 z0.length c0) ∧ w'.cell? ⟨px0, 0, none⟩ = some (.int .i64 h0) ∧ w'.cell? ⟨px0, 1, none⟩ = some (.slice (some ⟨g0, 0, none⟩) yo0.length yo0.length) ∧ w'.cell? ⟨px0, 2, none⟩ = some (.int .i64 f0) ∧ w'.cell? ⟨px0, 3, none⟩ = some (.int .i64 l0) ∧ w'.cell? ⟨px0, 4, none⟩ = some (.slice (some ⟨g0 + 4, 0, none⟩) z0.length z0.length) ∧ Carry v4 g0 yo0 z0 px0 h0 f0 l0 g1 z1 g2 z2 w') (first | exact ⟨cell_step (drew_step _) B0c0, cell_step (drew_step _) B0c1, cell_step (drew_step _) B0c2, cell_step (drew_step _) B0c3, cell_step (drew_step _) B0c4, cell_step (drew_step _) PX0c0, cell_step (drew_step _) PX0c1, cell_step (drew_step _) PX0c2, cell_step (drew_step _) PX0c3, cell_step (drew_step _) PX0c4, K.step (drew_step _)⟩ | exact keep10 hb (fun k => k.step hb) (by assumption)) (first | (go_at_call 17; obtain ⟨_, _, _, _, _, _, _, _, _, _, KK⟩ := ‹_ ∧ _ ∧ _ ∧ _ ∧ _ ∧ _ ∧ _ ∧ _ ∧ _ ∧ _ ∧ Carry v4 g0 yo0 z0 px0 h0 f0 l0 g1 z1 g2 z2 _›; refine (toScheme_any h0 f0 l0 ao0 yo0 co0 a0 z0 c0 _ (R0.out.step KK.e) S0.out).mono ?_; rintro e wf ⟨rfl, -, hof, hb⟩; have hx1 := KK.x0.step hb; clear KK) | (go_at_call 21; refine (eqScheme_same h0 f0 l0 _ _ yo0 _ _ _ _ z0 _ _ _ hx1.rows hof.rows S0.out.lens).mono ?_; rintro e w9 ⟨rfl, hb⟩))
  clear B0c0 B0c1 B0c2 B0c3 B0c4 B0lt PX0c0 PX0c1 PX0c2 PX0c3 PX0c4 PX0lt K hb hx1 hof
  obtain ⟨-, -, -, -, -, -, -, -, -, -, K⟩ := ‹_ ∧ _ ∧ _ ∧ _ ∧ _ ∧ _ ∧ _ ∧ _ ∧ _ ∧ _ ∧ Carry v4 g0 yo0 z0 px0 h0 f0 l0 g1 z1 g2 z2 _›
  replace E := Lib.hid K.e
  replace X0 := Lib.hid K.x0
  replace PX0 := Lib.hid K.b0
  replace X1 := Lib.hid K.x1
  replace X2 := Lib.hid K.x2
  clear K
  have B0c0 := (B0.out.step E.out).s0
  have B0c1 := (B0.out.step E.out).s1
  have B0c2 := (B0.out.step E.out).s2
  have B0c3 := (B0.out.step E.out).s3
  have B0c4 := (B0.out.step E.out).s4
  have B0lt := (B0.out.step E.out).lt
  have PX0c0 := (PX0.out).s0
  have PX0c1 := (PX0.out).s1
  have PX0c2 := (PX0.out).s2
  have PX0c3 := (PX0.out).s3
  have PX0c4 := (PX0.out).s4
  have PX0lt := (PX0.out).lt
  go_wp2_with fail
  clear B0c0 B0c1 B0c2 B0c3 B0c4 B0lt PX0c0 PX0c1 PX0c2 PX0c3 PX0c4 PX0lt
  refine (toInt64S_any a1 z1 c1 _ (R1.out.step E.out) hs1).mono ?_
  rintro e w10 ⟨rfl, hz, hrow, hb⟩
  replace E := Lib.hid (chain E.out hb)
  replace X0 := Lib.hid (X0.out.step hb)
  replace PX0 := Lib.hid (PX0.out.step hb)
  replace X1 := Lib.hid (X1.out.step hb)
  replace X2 := Lib.hid (X2.out.step hb)
  have Y := Lib.hid (Ints.of_row hrow)
  clear hb hrow hz
  have B0c0 := (B0.out.step E.out).s0
  have B0c1 := (B0.out.step E.out).s1
  have B0c2 := (B0.out.step E.out).s2
  have B0c3 := (B0.out.step E.out).s3
  have B0c4 := (B0.out.step E.out).s4
  have B0lt := (B0.out.step E.out).lt
  have PX0c0 := (PX0.out).s0
  have PX0c1 := (PX0.out).s1
  have PX0c2 := (PX0.out).s2
  have PX0c3 := (PX0.out).s3
  have PX0c4 := (PX0.out).s4
  have PX0lt := (PX0.out).lt
  go_wp2_with fail
  clear B0c0 B0c1 B0c2 B0c3 B0c4 B0lt PX0c0 PX0c1 PX0c2 PX0c3 PX0c4 PX0lt
  refine (eqInt64S_same _ _ z1 _ _ _ (Ints_of_own X1.out) Y.out (by omega)).mono ?_
  rintro e w11 ⟨rfl, hq⟩
  have hb := quiet_below hq
  replace E := Lib.hid (chain E.out hb)
  replace X0 := Lib.hid (X0.out.step hb)
  replace PX0 := Lib.hid (PX0.out.step hb)
  replace X1 := Lib.hid (X1.out.step hb)
  replace X2 := Lib.hid (X2.out.step hb)
  clear hb hq Y
  have B0c0 := (B0.out.step E.out).s0
  have B0c1 := (B0.out.step E.out).s1
  have B0c2 := (B0.out.step E.out).s2
  have B0c3 := (B0.out.step E.out).s3
  have B0c4 := (B0.out.step E.out).s4
  have B0lt := (B0.out.step E.out).lt
  have PX0c0 := (PX0.out).s0
  have PX0c1 := (PX0.out).s1
  have PX0c2 := (PX0.out).s2
  have PX0c3 := (PX0.out).s3
  have PX0c4 := (PX0.out).s4
  have PX0lt := (PX0.out).lt
  go_wp2_with fail
  clear B0c0 B0c1 B0c2 B0c3 B0c4 B0lt PX0c0 PX0c1 PX0c2 PX0c3 PX0c4 PX0lt
  refine (toInt64S_any a2 z2 c2 _ (R2.out.step E.out) hs2).mono ?_
  rintro e w12 ⟨rfl, hz, hrow, hb⟩
  replace E := Lib.hid (chain E.out hb)
  replace X0 := Lib.hid (X0.out.step hb)
  replace PX0 := Lib.hid (PX0.out.step hb)
  replace X1 := Lib.hid (X1.out.step hb)
  replace X2 := Lib.hid (X2.out.step hb)
  have Y := Lib.hid (Ints.of_row hrow)
  clear hb hrow hz
  have B0c0 := (B0.out.step E.out).s0
  have B0c1 := (B0.out.step E.out).s1
  have B0c2 := (B0.out.step E.out).s2
  have B0c3 := (B0.out.step E.out).s3
  have B0c4 := (B0.out.step E.out).s4
  have B0lt := (B0.out.step E.out).lt
  have PX0c0 := (PX0.out).s0
  have PX0c1 := (PX0.out).s1
  have PX0c2 := (PX0.out).s2
  have PX0c3 := (PX0.out).s3
  have PX0c4 := (PX0.out).s4
  have PX0lt := (PX0.out).lt
  go_wp2_with fail
  clear B0c0 B0c1 B0c2 B0c3 B0c4 B0lt PX0c0 PX0c1 PX0c2 PX0c3 PX0c4 PX0lt
  refine (eqInt64S_same _ _ z2 _ _ _ (Ints_of_own X2.out) Y.out (by omega)).mono ?_
  rintro e w13 ⟨rfl, hq⟩
  have hb := quiet_below hq
  replace E := Lib.hid (chain E.out hb)
  replace X0 := Lib.hid (X0.out.step hb)
  replace PX0 := Lib.hid (PX0.out.step hb)
  replace X1 := Lib.hid (X1.out.step hb)
  replace X2 := Lib.hid (X2.out.step hb)
  clear hb hq Y
  have B0c0 := (B0.out.step E.out).s0
  have B0c1 := (B0.out.step E.out).s1
  have B0c2 := (B0.out.step E.out).s2
  have B0c3 := (B0.out.step E.out).s3
  have B0c4 := (B0.out.step E.out).s4
  have B0lt := (B0.out.step E.out).lt
  have PX0c0 := (PX0.out).s0
  have PX0c1 := (PX0.out).s1
  have PX0c2 := (PX0.out).s2
  have PX0c3 := (PX0.out).s3
  have PX0c4 := (PX0.out).s4
  have PX0lt := (PX0.out).lt
  go_wp2_with fail
  clear B0c0 B0c1 B0c2 B0c3 B0c4 B0lt PX0c0 PX0c1 PX0c2 PX0c3 PX0c4 PX0lt
  go_ret
  exact ⟨rfl, D.out.trans (E.out.mono D.out.size)⟩
end Icn
end Go.Proofs.Ytekhjoenejgmaaa

/- 'laws.FnExactTidyGate': for every argument, valid or not, the program's function answers what the model's answers, and writes into nothing that it was given. No condition. -/
import Derived.Test.YtjhggglaglpgfaaTs
import Derived.Test.YtjhggglaglpgfaaTt
import Derived.Test.YtjhggglaglpgfaaTe
import Derived.Test.YtjhggglaglpgfaaTm
import Derived.Test.YtjhggglaglpgfaaHg
import Derived.Test.YtjhggglaglpgfaaTyg
import Derived.Deep.RegionLaw
import Derived.Deep.DrawnRows
namespace Go.Proofs.Ytjhggglaglpgfaa
open Go.ChangeShapes Go.WideShapes Go.ChangeAt Go.RowKit Go.Deep
set_option linter.unusedVariables false
namespace TidyGate

theorem wide_of : ∀ {f : Fo}, f.size ≤ 1048576 → f.wide
  | .nil, _ => trivial
  | .cons h l k r, hs => by
    simp only [Fo.size] at hs
    have := k.len_le
    exact ⟨by omega, wide_of (by omega), wide_of (by omega)⟩

set_option maxHeartbeats 8000000 in
set_option maxRecDepth 100000 in
theorem law_of (x0 : Int) (h l : Int) (a : Option Addr) (f : Fo) (c : Nat) (rh rl : Int) (rf : Fo) (rc : Int) (w : World) (hk : Kids w 0 a f) (hl : f.len ≤ 9223372036854775807) (hw : f.wide)
    (hS : f.size ≤ 1048576 → ∀ (B : Nat) (b : Option Addr) (d : Nat) (W : World), Kids W B b f → Calls Try.prog 15 #[.int .i64 x0, .agg #[.int .i64 h, .int .i64 l, .slice b f.len d]] W (GivesGX W rh rl rf rc))
    (hI : f.size ≤ 1048576 → ∀ (B : Nat) (b : Option Addr) (d : Nat) (W : World), Kids W B b f → Calls Try.prog 16 #[.int .i64 x0, .agg #[.int .i64 h, .int .i64 l, .slice b f.len d]] W (GivesGY W rh rl rf rc))
    (hrs : rf.size ≤ 1048576) :
    Calls Try.prog 4 #[.int .i64 x0, .agg #[.int .i64 h, .int .i64 l, .slice a f.len c]] w fun e w' => e = .returned (.bool true) ∧ Below w.heap.size w w' := by
  have HK := Lib.hid hk
  have HL := Lib.hid hl
  have HW := Lib.hid hw
  have HSP := Lib.hid hS
  have HIM := Lib.hid hI
  have HRW := Lib.hid (wide_of hrs)
  have hrl := rf.len_le
  clear hk hl hw hS hI
  go_enter Try.func4, Try.ntmps4
  go_wp2_with fail
  have hb1 := (Below.refl w.heap.size w).alloc (Nat.le_refl _) (.cells #[.int .i64 h, .int .i64 l, .slice a f.len c] 24)
  have hx1 : Boxes (w.alloc (.cells #[.int .i64 h, .int .i64 l, .slice a f.len c] 24)) w.heap.size 24 #[.int .i64 h, .int .i64 l, .slice a f.len c] := World.alloc_heap_new _ _
  refine (szGate_of h l 0 a f c 1048576 _ (fun W hW => szGateS_any f.size f (Nat.le_refl _) 0 a c 1048576 W hW HL.out HW.out (by omega) (by omega)) (HK.out.step hb1)).mono ?_
  generalize w.alloc (.cells #[.int .i64 h, .int .i64 l, .slice a f.len c] 24) = w1 at *
  rintro e w2 ⟨⟨v, hv, rfl⟩, hb2⟩
  have HX := Lib.hid (hx1.step hb2)
  have HB := Lib.hid (hb1.trans (hb2.mono hb1.size))
  clear hx1 hb1 hb2
  rcases hv with rfl | ⟨h0, h1⟩
  · go_wp2_with fail
    go_ret
    exact ⟨rfl, HB.out⟩
  have hsz : f.size ≤ 1048576 := by omega
  have HXx0 := (HX.out).g0
  have HXx1 := (HX.out).g1
  have HXx2 := (HX.out).g2
  have HXlt := (HX.out).lt
  go_wp2_with fail
  clear h0 h1
  refine (toGate_of h l 0 a f c _ (fun W hW => toGateS_any 1048577 f (by omega) (by omega) 0 a c W hW) (HK.out.below HB.out (Nat.le_refl _))).mono ?_
  clear HXx0 HXx1 HXx2 HXlt
  rintro e w3 ⟨⟨a1, c1, rfl, k1⟩, hb⟩
  replace HX := Lib.hid (HX.out.step hb)
  replace HB := Lib.hid (HB.out.trans (hb.mono HB.out.size))
  have K1 := Lib.hid k1
  clear hb k1
  have HXx0 := (HX.out).g0
  have HXx1 := (HX.out).g1
  have HXx2 := (HX.out).g2
  have HXlt := (HX.out).lt
  go_wp2_with fail
  refine (HSP.out hsz _ a1 c1 _ K1.out).mono ?_
  clear HXx0 HXx1 HXx2 HXlt
  rintro e w4 ⟨⟨sa, sc, rfl, hw0⟩, hb⟩
  replace HX := Lib.hid (HX.out.step hb)
  replace HB := Lib.hid (HB.out.trans (hb.mono HB.out.size))
  have W0 := Lib.hid hw0
  clear hb hw0 K1
  have HXx0 := (HX.out).g0
  have HXx1 := (HX.out).g1
  have HXx2 := (HX.out).g2
  have HXlt := (HX.out).lt
  go_wp2_with fail
  clear HXx0 HXx1 HXx2 HXlt
  have hb := (Below.refl w4.heap.size w4).alloc (Nat.le_refl _) (.cells #[.int .i64 rh, .int .i64 rl, .slice sa rf.len sc] 28)
  have hy : Boxes (w4.alloc (.cells #[.int .i64 rh, .int .i64 rl, .slice sa rf.len sc] 28)) w4.heap.size 28 #[.int .i64 rh, .int .i64 rl, .slice sa rf.len sc] := World.alloc_heap_new _ _
  generalize hgw : w4.alloc (.cells #[.int .i64 rh, .int .i64 rl, .slice sa rf.len sc] 28) = w5 at *
  replace HX := Lib.hid (HX.out.step hb)
  replace HB := Lib.hid (HB.out.trans (hb.mono HB.out.size))
  replace W0 := Lib.hid (W0.out.step hb)
  generalize w4.heap.size = qa at *
  have HA := Lib.hid hy
  clear hb hy hgw
  generalize w5 = v4 at *
  have HE := Lib.hid (Below.refl v4.heap.size v4)
  skip
  have HXx0 := (HX.out.step HE.out).g0
  have HXx1 := (HX.out.step HE.out).g1
  have HXx2 := (HX.out.step HE.out).g2
  have HXlt := (HX.out.step HE.out).lt
  go_wp2_with fail
  refine (toGateM_of h l 0 a f c _ (fun W hW => toGateSM_any 1048577 f (by omega) (by omega) 0 a c W hW) (HK.out.below (HB.out.trans (HE.out.mono HB.out.size)) (Nat.le_refl _))).mono ?_
  clear HXx0 HXx1 HXx2 HXlt
  rintro e w5 ⟨⟨a2, c2, rfl, k2⟩, hb⟩
  replace HE := Lib.hid (HE.out.trans (hb.mono HE.out.size))
  obtain ⟨lo, hlo⟩ : ∃ b, v4.heap.size + 3 = b := ⟨_, rfl⟩
  rw [hlo] at k2
  have HLO := Lib.hid (show v4.heap.size ≤ lo by omega)
  obtain ⟨hh, hhi⟩ : ∃ b, w5.heap.size = b := ⟨_, rfl⟩
  have kn := k2.kidsn
  rw [hhi] at kn
  have KN := Lib.hid kn
  have k2 := k2.kids
  have HHI := Lib.hid (show hh ≤ w5.heap.size by omega)
  have K2 := Lib.hid k2
  clear hb k2 hlo kn hhi
  go_wp2_with fail
  have HPY := Lib.hid (show hh ≤ w5.heap.size from HHI.out)
  have hb := (Below.refl w5.heap.size w5).alloc (Nat.le_refl _) (.cells #[.int .i64 h, .int .i64 l, .slice a2 f.len c2] 28)
  have hy : Boxes (w5.alloc (.cells #[.int .i64 h, .int .i64 l, .slice a2 f.len c2] 28)) w5.heap.size 28 #[.int .i64 h, .int .i64 l, .slice a2 f.len c2] := World.alloc_heap_new _ _
  generalize hgw : w5.alloc (.cells #[.int .i64 h, .int .i64 l, .slice a2 f.len c2] 28) = w6 at *
  replace HE := Lib.hid (HE.out.trans (hb.mono HE.out.size))
  replace KN := Lib.hid (KN.out.step hb)
  replace K2 := Lib.hid (K2.out.step hb)
  generalize w5.heap.size = py at *
  have HY := Lib.hid hy
  clear hb hy hgw
  refine (HIM.out hsz _ a2 c2 w6 K2.out).mono ?_
  rintro e w7 ⟨⟨ga, gc, rfl, hown⟩, hb⟩
  obtain ⟨bs, hbs⟩ : ∃ b, w6.heap.size = b := ⟨_, rfl⟩
  obtain ⟨be, hbe⟩ : ∃ b, w7.heap.size = b := ⟨_, rfl⟩
  have HBS := Lib.hid (show hh ≤ bs by have := HY.out.lt; have := HPY.out; omega)
  have HVB := Lib.hid (show v4.heap.size ≤ bs by have := HE.out.size; omega)
  have HBB := Lib.hid (show bs ≤ be by have := hb.size; omega)
  replace HE := Lib.hid (HE.out.trans (hb.mono HE.out.size))
  replace KN := Lib.hid (KN.out.step hb)
  replace K2 := Lib.hid (K2.out.step hb)
  replace HY := Lib.hid (HY.out.step hb)
  rw [hbs, hbe] at hown
  have GG := Lib.hid hown
  have HQG := Lib.hid (show be ≤ w7.heap.size by omega)
  clear hb hown hbs hbe
  have HAx0 := (HA.out.step HE.out).g0
  have HAx1 := (HA.out.step HE.out).g1
  have HAx2 := (HA.out.step HE.out).g2
  have HAlt := (HA.out.step HE.out).lt
  go_wp2_with fail
  clear HAx0 HAx1 HAx2 HAlt
  have HQ2 := Lib.hid (show be ≤ w7.heap.size from HQG.out)
  have hb := (Below.refl w7.heap.size w7).alloc (Nat.le_refl _) (.cells #[.int .i64 rh, .int .i64 rl, .slice ga rf.len gc] 28)
  have hy : Boxes (w7.alloc (.cells #[.int .i64 rh, .int .i64 rl, .slice ga rf.len gc] 28)) w7.heap.size 28 #[.int .i64 rh, .int .i64 rl, .slice ga rf.len gc] := World.alloc_heap_new _ _
  generalize hgw : w7.alloc (.cells #[.int .i64 rh, .int .i64 rl, .slice ga rf.len gc] 28) = w8 at *
  replace HE := Lib.hid (HE.out.trans (hb.mono HE.out.size))
  replace KN := Lib.hid (KN.out.step hb)
  replace K2 := Lib.hid (K2.out.step hb)
  replace HY := Lib.hid (HY.out.step hb)
  replace GG := Lib.hid (GG.out.step hb)
  generalize w7.heap.size = qg at *
  have HG := Lib.hid hy
  have HHG := Lib.hid (show hh ≤ qg from Nat.le_trans (Nat.le_trans HBS.out HBB.out) HQ2.out)
  have HQG2 := Lib.hid (show be ≤ qg from HQ2.out)
  clear hb hy hgw
  refine (eqGate_of rh rl 0 0 ga sa rf gc sc _ (fun W hW1 hW2 => eqGateS_any (rf.size + 1) rf (Nat.lt_succ_self _) 0 0 ga sa gc sc W (by omega) HRW.out hW1 hW2) (GG.out.kids (Nat.zero_le _)) (W0.out.step HE.out)).mono ?_
  rintro e w9 ⟨rfl, hb⟩
  replace HE := Lib.hid (HE.out.trans (hb.mono HE.out.size))
  replace KN := Lib.hid (KN.out.step hb)
  replace K2 := Lib.hid (K2.out.step hb)
  replace HY := Lib.hid (HY.out.step hb)
  replace GG := Lib.hid (GG.out.step hb)
  replace HG := Lib.hid (HG.out.step hb)
  clear hb
  have HXx0 := (HX.out.step HE.out).g0
  have HXx1 := (HX.out.step HE.out).g1
  have HXx2 := (HX.out.step HE.out).g2
  have HXlt := (HX.out.step HE.out).lt
  have HYx0 := (HY.out).g0
  have HYx1 := (HY.out).g1
  have HYx2 := (HY.out).g2
  have HYlt := (HY.out).lt
  go_wp2_with fail
  go_region_law ((first | (go_simp; go_at_call 10; refine (toGate_of h l 0 a f c _ (fun W hW => toGateS_any 1048577 f (by omega) (by omega) 0 a c W hW) (by first | exact HK.out.below (HB.out.trans (HE.out.mono HB.out.size)) (Nat.le_refl _) | exact HK.out.below (HB.out.trans (HE.out.drew.mono HB.out.size)) (Nat.le_refl _))).mono ?_; rintro e w8 ⟨⟨a3, c3, rfl, k3⟩, hb8⟩; have HE8 := Lib.hid (show Below v4.heap.size v4 w8 by first | exact HE.out.trans (hb8.mono HE.out.size) | exact (HE.out.trans ((drew_step _).mono HE.out.size)).trans (hb8.mono (HE.out.trans ((drew_step _).mono HE.out.size)).size)); have KN8 := Lib.hid (show KidsN w8 lo hh a2 f by first | exact KN.out.step hb8 | exact (KN.out.step (drew_step _)).step hb8); have K28 := Lib.hid (show Kids w8 lo a2 f by first | exact K2.out.step hb8 | exact (K2.out.step (drew_step _)).step hb8); have HY8 := Lib.hid (show Boxes w8 py 28 #[.int .i64 h, .int .i64 l, .slice a2 f.len c2] by first | exact HY.out.step hb8 | exact (HY.out.step (drew_step _)).step hb8); have GG8 := Lib.hid (show OG w8 bs be ga rf by first | exact GG.out.step hb8 | exact (GG.out.step (drew_step _)).step hb8); have HG8 := Lib.hid (show Boxes w8 qg 28 #[.int .i64 rh, .int .i64 rl, .slice ga rf.len gc] by first | exact HG.out.step hb8 | exact (HG.out.step (drew_step _)).step hb8); have z4 := HY8.out.g0; have z5 := HY8.out.g1; have z6 := HY8.out.g2; have lz := HY8.out.lt; have HK3 := Lib.hid k3) | (go_simp; go_at_call 12; refine (eqGate_of h l _ _ a2 a3 f c2 c3 _ (fun W hW1 hW2 => eqGateS_any (f.size + 1) f (Nat.lt_succ_self _) _ _ a2 a3 c2 c3 W HL.out HW.out hW1 hW2) (by first | exact K28.out | exact K28.out.step (drew_step _)) (by first | exact HK3.out | exact HK3.out.step (drew_step _))).mono ?_; rintro e w9 ⟨rfl, hb9⟩; have HE9 := Lib.hid (show Below v4.heap.size v4 w9 by first | exact HE8.out.trans (hb9.mono HE8.out.size) | exact (HE8.out.trans ((drew_step _).mono HE8.out.size)).trans (hb9.mono (HE8.out.trans ((drew_step _).mono HE8.out.size)).size)); have KN9 := Lib.hid (show KidsN w9 lo hh a2 f by first | exact KN8.out.step hb9 | exact (KN8.out.step (drew_step _)).step hb9); have K29 := Lib.hid (show Kids w9 lo a2 f by first | exact K28.out.step hb9 | exact (K28.out.step (drew_step _)).step hb9); have HY9 := Lib.hid (show Boxes w9 py 28 #[.int .i64 h, .int .i64 l, .slice a2 f.len c2] by first | exact HY8.out.step hb9 | exact (HY8.out.step (drew_step _)).step hb9); have GG9 := Lib.hid (show OG w9 bs be ga rf by first | exact GG8.out.step hb9 | exact (GG8.out.step (drew_step _)).step hb9); have HG9 := Lib.hid (show Boxes w9 qg 28 #[.int .i64 rh, .int .i64 rl, .slice ga rf.len gc] by first | exact HG8.out.step hb9 | exact (HG8.out.step (drew_step _)).step hb9))))
  all_goals (
    clear HXx0 HXx1 HXx2 HXlt HYx0 HYx1 HYx2 HYlt z4 z5 z6 lz
    replace HE := HE9
    replace KN := KN9
    replace K2 := K29
    replace HY := HY9
    replace GG := GG9
    replace HG := HG9
    have HYx0 := (HY.out).g0
    have HYx1 := (HY.out).g1
    have HYx2 := (HY.out).g2
    have HYlt := (HY.out).lt
    go_wp2_with fail
    refine (markGate_any h l lo hh a2 f c2 1 _ hsz (by first | exact KN.out | exact KN.out.step (drew_step _)) (by omega) (by omega)).mono ?_
    clear HYx0 HYx1 HYx2 HYlt
    rintro e w10 ⟨rfl, ht⟩
    have HE10 := Lib.hid (show Below v4.heap.size v4 w10 by first | exact HE.out.trans (ht.below2 HLO.out HE.out.size) | exact HE.out.drew.trans (ht.below2 HLO.out HE.out.drew.size))
    have GG10 := Lib.hid (show OG w10 bs be ga rf by first | exact GG.out.touch ht (.inr HBS.out) | exact (GG.out.step (drew_step _)).touch ht (.inr HBS.out))
    have HG10 := Lib.hid (show Boxes w10 qg 28 #[.int .i64 rh, .int .i64 rl, .slice ga rf.len gc] by first | exact HG.out.touch ht HHG.out | exact (HG.out.step (drew_step _)).touch ht HHG.out)
    clear ht
    replace HE := HE10
    replace GG := GG10
    replace HG := HG10
    clear HE10 GG10 HG10 KN K2 HY
    have tk : ¬ ((1 : Int) + 2 * (f.size : Int) < 0) := by omega
    have HAx0 := (HA.out.step HE.out).g0
    have HAx1 := (HA.out.step HE.out).g1
    have HAx2 := (HA.out.step HE.out).g2
    have HAlt := (HA.out.step HE.out).lt
    have HGx0 := (HG.out).g0
    have HGx1 := (HG.out).g1
    have HGx2 := (HG.out).g2
    have HGlt := (HG.out).lt
    go_wp2_with fail
    refine (eqGate_of rh rl 0 0 ga sa rf gc sc _ (fun W hW1 hW2 => eqGateS_any (rf.size + 1) rf (Nat.lt_succ_self _) 0 0 ga sa gc sc W (by omega) HRW.out hW1 hW2) (GG.out.kids (Nat.zero_le _)) (W0.out.step HE.out)).mono ?_
    clear HAx0 HAx1 HAx2 HAlt HGx0 HGx1 HGx2 HGlt
    rintro e w11 ⟨rfl, hb⟩
    replace HE := Lib.hid (HE.out.trans (hb.mono HE.out.size))
    replace GG := Lib.hid (GG.out.step hb)
    replace HG := Lib.hid (HG.out.step hb)
    clear hb
    have HGx0 := (HG.out).g0
    have HGx1 := (HG.out).g1
    have HGx2 := (HG.out).g2
    have HGlt := (HG.out).lt
    go_wp2_with fail
    refine (markGateO_any rh rl bs be ga rf gc 1 _ hrs GG.out (by omega) (by omega)).mono ?_
    rintro e w12 ⟨rfl, ho, ht⟩
    replace HE := Lib.hid (HE.out.trans (ht.below2 HVB.out HE.out.size))
    replace GG := Lib.hid ho
    replace HG := Lib.hid (HG.out.touch ht HQG2.out)
    clear HGx0 HGx1 HGx2 HGlt
    clear ho ht
    have t2 : ((1 : Int) + 2 * (rf.size : Int) != (1 : Int) + 2 * (rf.size : Int)) = false := by simp
    have t3 : ¬ ((1 : Int) + 2 * (rf.size : Int) < 0) := by omega
    have HGx0 := (HG.out).g0
    have HGx1 := (HG.out).g1
    have HGx2 := (HG.out).g2
    have HGlt := (HG.out).lt
    go_wp2_with fail
    refine (heldGate_any rh rl 0 ga rf gc 1 _ hrs (GG.out.kids (Nat.zero_le _)) (by omega) (by omega)).mono ?_
    rintro e w13 ⟨rfl, hb⟩
    clear HGx0 HGx1 HGx2 HGlt
    replace HE := Lib.hid (HE.out.trans (hb.mono HE.out.size))
    replace GG := Lib.hid (GG.out.step hb)
    replace HG := Lib.hid (HG.out.step hb)
    clear hb
    have HXx0 := (HX.out.step HE.out).g0
    have HXx1 := (HX.out.step HE.out).g1
    have HXx2 := (HX.out.step HE.out).g2
    have HXlt := (HX.out.step HE.out).lt
    go_wp2_with fail
    refine (toGate_of h l 0 a f c _ (fun W hW => toGateS_any 1048577 f (by omega) (by omega) 0 a c W hW) (HK.out.below (HB.out.trans (HE.out.mono HB.out.size)) (Nat.le_refl _))).mono ?_
    clear HXx0 HXx1 HXx2 HXlt
    rintro e w14 ⟨⟨a5, c5, rfl, k5⟩, hb⟩
    replace HE := Lib.hid (HE.out.trans (hb.mono HE.out.size))
    replace GG := Lib.hid (GG.out.step hb)
    replace HG := Lib.hid (HG.out.step hb)
    have K5 := Lib.hid k5
    clear hb k5
    go_wp2_with fail
    refine (HIM.out hsz _ a5 c5 _ K5.out).mono ?_
    rintro e w15 ⟨⟨ha, hc, rfl, hown⟩, hb⟩
    replace HE := Lib.hid (HE.out.trans (hb.mono HE.out.size))
    replace GG := Lib.hid (GG.out.step hb)
    replace HG := Lib.hid (HG.out.step hb)
    have HH := Lib.hid (hown.kids (Nat.zero_le _))
    clear hb hown K5
    have HAx0 := (HA.out.step HE.out).g0
    have HAx1 := (HA.out.step HE.out).g1
    have HAx2 := (HA.out.step HE.out).g2
    have HAlt := (HA.out.step HE.out).lt
    go_wp2_with fail
    clear HAx0 HAx1 HAx2 HAlt
    have hb := (Below.refl w15.heap.size w15).alloc (Nat.le_refl _) (.cells #[.int .i64 rh, .int .i64 rl, .slice ha rf.len hc] 28)
    have hy : Boxes (w15.alloc (.cells #[.int .i64 rh, .int .i64 rl, .slice ha rf.len hc] 28)) w15.heap.size 28 #[.int .i64 rh, .int .i64 rl, .slice ha rf.len hc] := World.alloc_heap_new _ _
    generalize hgw : w15.alloc (.cells #[.int .i64 rh, .int .i64 rl, .slice ha rf.len hc] 28) = w16 at *
    replace HE := Lib.hid (HE.out.trans (hb.mono HE.out.size))
    replace GG := Lib.hid (GG.out.step hb)
    replace HG := Lib.hid (HG.out.step hb)
    replace HH := Lib.hid (HH.out.step hb)
    generalize w15.heap.size = qh at *
    have HHB := Lib.hid hy
    clear hb hy hgw
    refine (eqGate_of rh rl 0 0 ha sa rf hc sc _ (fun W hW1 hW2 => eqGateS_any (rf.size + 1) rf (Nat.lt_succ_self _) 0 0 ha sa hc sc W (by omega) HRW.out hW1 hW2) HH.out (W0.out.step HE.out)).mono ?_
    rintro e w17 ⟨rfl, hb⟩
    replace HE := Lib.hid (HE.out.trans (hb.mono HE.out.size))
    replace GG := Lib.hid (GG.out.step hb)
    replace HG := Lib.hid (HG.out.step hb)
    replace HH := Lib.hid (HH.out.step hb)
    replace HHB := Lib.hid (HHB.out.step hb)
    clear hb
    have HGx0 := (HG.out).g0
    have HGx1 := (HG.out).g1
    have HGx2 := (HG.out).g2
    have HGlt := (HG.out).lt
    go_wp2_with fail
    refine (heldGate_any rh rl 0 ga rf gc 1 _ hrs (GG.out.kids (Nat.zero_le _)) (by omega) (by omega)).mono ?_
    rintro e w18 ⟨rfl, hb⟩
    clear HGx0 HGx1 HGx2 HGlt
    replace HE := Lib.hid (HE.out.trans (hb.mono HE.out.size))
    replace GG := Lib.hid (GG.out.step hb)
    replace HG := Lib.hid (HG.out.step hb)
    replace HH := Lib.hid (HH.out.step hb)
    replace HHB := Lib.hid (HHB.out.step hb)
    clear hb
    go_wp2_with fail
    go_ret
    exact ⟨rfl, HB.out.trans (HE.out.mono HB.out.size)⟩)

theorem law (x0 : Int) (h l : Int) (a : Option Addr) (f : Fo) (c : Nat) (w : World) (wf0 : (Lit.int .i64 x0).wf = true) (hk : Kids w 0 a f) (hl : f.len ≤ 9223372036854775807) (hw : f.wide) :
    Calls Try.prog 4 #[.int .i64 x0, .agg #[.int .i64 h, .int .i64 l, .slice a f.len c]] w fun e w' => e = .returned (.bool true) ∧ Below w.heap.size w w' :=
  law_of x0 h l a f c (tgH x0 h l f) (tgL x0 h l f) (tgF x0 h l f) (tgCode x0 h l f) w hk hl hw (fun hs B b d W hW => specTyg_any f hs B x0 h l b d W hW) (fun hs B b d W hW => implTyg_any f hs B x0 h l b d W hW) (tg_size x0 h l f)

theorem own : ownKnob Try.prog.godebug = none := by kernel_rfl
theorem laidOut : laidOutB Try.prog = true := by kernel_rfl

set_option maxRecDepth 100000 in
theorem lifted (os : Os) (started : os.Started) (H : Type) (enc : TypeId × Value → H) :
    ReturnsInHanded {} Try.checked os 4 .any (Rows.fnExactTidyGateSpec.pre6 enc Try.prog Try.f4 Rows.fnExactTidyGateRow.domain false) (Rows.fnExactTidyGateSpec.post enc Try.prog Try.f4 false true false false) := by
  refine returnsInHanded_of_change (C := Try.checked) own started (by kernel_rfl) Try.func4
    (ChangeSpec.witness6 (enc := enc) (C := Try.checked) false ⟨#[], #[.int .i64 0, .agg #[.int .i64 0, .int .i64 0, .slice none 0 0]], []⟩ 8 (by kernel_rfl) (by kernel_rfl) (by kernel_rfl) (by kernel_rfl)) ?_
  intro W base args ds gs before hval0 hW hcnd _
  have hval : ∀ (j : Nat) t v, Try.f4.params[j]? = some t → args[j]? = some v → Value.okWide Try.prog W .any base t v := hval0
  have hW' := hW
  obtain ⟨p, q, hA0, hV, rfl, hfz, hnd⟩ := hW
  have hA : DataW.TrodAll enc Try.prog W 0 (fun _ => true) true Try.f4.params.toList args.toList ds p := hA0
  rw [Try.params4] at hA hval
  obtain ⟨v0, vs0, d0, ds0, p0, q0, hargs, rfl, rfl, h0, r0⟩ := trodAll_cons hA
  obtain ⟨v1, vs1, d1, ds1, p1, q1, rfl, rfl, rfl, h1, r1⟩ := trodAll_cons r0
  obtain ⟨rfl, rfl, rfl⟩ := trodAll_nil r1
  obtain rfl : args = #[v0, v1] := by cases args; simp_all
  obtain ⟨rfl, rfl⟩ := trodVars_none hV
  obtain ⟨x0, rfl, rfl, rfl, w0⟩ := open_int Try.underlying2 (hval 0 2 v0 rfl rfl) h0
  have k1 := h1
  have lt1 : ∀ x ∈ p1, x.block < W.heap.size := by obtain ⟨m, hm⟩ := k1; exact DataW.trod_lt m _ _ _ hm
  obtain ⟨hh1, kk1, a1, z1, c1, rfl, rr1, ll1, ww1⟩ := open_gate (hval 1 24 v1 rfl rfl) h1
  clear hA0 hval0
  refine (law x0 hh1 kk1 a1 z1 c1 W w0 rr1 ll1 ww1).mono fun e W' ⟨he, bel⟩ => ?_
  subst he
  exact ⟨_, rfl, _, _, _, [], _, [], hW', trodAll_mk1 (shut_bool Try.underlying4 _), (trodAll_cons_mk (shut_int Try.underlying2 w0) (trodAll_cons_mk (Below.trod laidOut (by kernel_rfl) (of_decide_eq_true (by kernel_rfl)) k1 bel lt1) trodAll_mk0)), rfl, bel.frame _, fun h => by cases h⟩

theorem over : Rows.fnExactTidyGateRow.holds Try.pinned (OpenSpec.ofChange Rows.fnExactTidyGateSpec) :=
  OpenClaim.holds_of_wide 4 Try.f4 rfl rfl rfl rfl rfl rfl rfl ⟨rfl, rfl, rfl, rfl, rfl⟩ rfl rfl rfl rfl rfl (by kernel_rfl) Try.func4 (by kernel_rfl)
    (of_decide_eq_true (by kernel_rfl)) (by unfold Func.isWrapper; first | (rw [if_pos (by decide +kernel)]; kernel_rfl) | (rw [if_neg (by decide +kernel)]; exact ⟨rfl, rfl⟩))
    (fun os started H enc _ => lifted os started H enc)

theorem proved : Rows.FnExactTidyGateSaid := over

end TidyGate
end Go.Proofs.Ytjhggglaglpgfaa

/- 'laws.FnExactGateOpens': for every argument, valid or not, the program's function answers what the model's answers, and writes into nothing that it was given. No condition. -/
import Derived.Test.YtikccnimlgdcnaaTs
import Derived.Test.YtikccnimlgdcnaaTt
import Derived.Test.YtikccnimlgdcnaaTe
import Derived.Test.YtikccnimlgdcnaaGo
import Derived.Deep.RegionLaw
import Derived.Deep.DrawnRows
namespace Go.Proofs.Ytikccnimlgdcnaa
open Go.ChangeShapes Go.WideShapes Go.ChangeAt Go.RowKit Go.Deep
set_option linter.unusedVariables false
namespace GateOpens

set_option maxHeartbeats 4000000 in
set_option maxRecDepth 100000 in
theorem law (x0 : Int) (h l : Int) (a : Option Addr) (f : Fo) (c : Nat) (ar : Option Addr) (zs : List Int) (cr : Nat) (w : World) (wf0 : (Lit.int .i64 x0).wf = true) (hk : Kids w 0 a f) (hl : f.len ≤ 9223372036854775807) (hw : f.wide) (hi : Ints w ar zs) (hli : zs.length ≤ 9223372036854775807) :
    Calls Try.prog 4 #[.int .i64 x0, .agg #[.int .i64 h, .int .i64 l, .slice a f.len c], .slice ar zs.length cr] w fun e w' => e = .returned (.bool true) ∧ Below w.heap.size w w' := by
  have HK := Lib.hid hk
  have HL := Lib.hid hl
  have HW := Lib.hid hw
  clear hk hl hw
  have HI := Lib.hid hi
  clear hi
  by_cases hbig : 1048576 < zs.length
  · have t1 : (1048576 : Int) < (zs.length : Int) := by omega
    go_enter Try.func4, Try.ntmps4
    go_wp2_with fail
    go_ret
    exact ⟨rfl, by first | exact Below.refl _ _ | go_grown⟩
  have hs : zs.length ≤ 1048576 := by omega
  clear hbig
  go_enter Try.func4, Try.ntmps4
  go_wp2_with fail
  have hb1 := (Below.refl w.heap.size w).alloc (Nat.le_refl _) (.cells #[.int .i64 h, .int .i64 l, .slice a f.len c] 24)
  have hx1 : Boxes (w.alloc (.cells #[.int .i64 h, .int .i64 l, .slice a f.len c] 24)) w.heap.size 24 #[.int .i64 h, .int .i64 l, .slice a f.len c] := World.alloc_heap_new _ _
  refine (szGate_of h l 0 a f c 1048576 _ (fun W hW => szGateS_any f.size f (Nat.le_refl _) 0 a c 1048576 W hW HL.out HW.out (by omega) (by omega)) (HK.out.step hb1)).mono ?_
  generalize w.alloc (.cells #[.int .i64 h, .int .i64 l, .slice a f.len c] 24) = w1 at *
  rintro e w2 ⟨⟨v, hv, rfl⟩, hb2⟩
  have HX := Lib.hid (hx1.step hb2)
  have HB := Lib.hid (hb1.trans (hb2.mono hb1.size))
  clear hx1 hb1 hb2
  rcases hv with rfl | ⟨h0, h1⟩
  · go_wp2_with fail
    go_ret
    exact ⟨rfl, HB.out⟩
  have hsz : f.size ≤ 1048576 := by omega
  have HXx0 := HX.out.g0
  have HXx1 := HX.out.g1
  have HXx2 := HX.out.g2
  have HXlt := HX.out.lt
  go_wp2_with fail
  clear h0 h1
  refine (toGate_of h l 0 a f c w2 (fun W hW => toGateS_any 1048577 f (by omega) (by omega) 0 a c W hW) (HK.out.below HB.out (Nat.le_refl _))).mono ?_
  clear HXx0 HXx1 HXx2 HXlt
  rintro e w3 ⟨⟨a1, c1, rfl, k1⟩, hb⟩
  replace HX := Lib.hid (HX.out.step hb)
  replace HB := Lib.hid (HB.out.trans (hb.mono HB.out.size))
  have K1 := Lib.hid k1
  clear hb k1
  have HXx0 := HX.out.g0
  have HXx1 := HX.out.g1
  have HXx2 := HX.out.g2
  have HXlt := HX.out.lt
  go_wp2_with fail
  refine (toInt64S_any ar zs cr _ (HI.out.below HB.out (Nat.le_refl _)) hs).mono ?_
  clear HXx0 HXx1 HXx2 HXlt
  rintro e w4 ⟨rfl, hz, hrow, hb⟩
  replace HX := Lib.hid (HX.out.step hb)
  replace HB := Lib.hid (HB.out.trans (hb.mono HB.out.size))
  replace K1 := Lib.hid (K1.out.step hb)
  have M1 := Lib.hid (Ints.of_row hrow)
  clear hb hrow hz
  have HXx0 := HX.out.g0
  have HXx1 := HX.out.g1
  have HXx2 := HX.out.g2
  have HXlt := HX.out.lt
  go_wp2_with fail
  refine (specGo_any f hsz _ x0 h l a1 c1 _ zs _ _ K1.out M1.out hli).mono ?_
  clear HXx0 HXx1 HXx2 HXlt
  rintro e w5 ⟨rfl, hb⟩
  replace HX := Lib.hid (HX.out.step hb)
  replace HB := Lib.hid (HB.out.trans (hb.mono HB.out.size))
  clear hb K1 M1
  have HXx0 := HX.out.g0
  have HXx1 := HX.out.g1
  have HXx2 := HX.out.g2
  have HXlt := HX.out.lt
  go_wp2_with fail
  refine (toGate_of h l 0 a f c w5 (fun W hW => toGateS_any 1048577 f (by omega) (by omega) 0 a c W hW) (HK.out.below HB.out (Nat.le_refl _))).mono ?_
  clear HXx0 HXx1 HXx2 HXlt
  rintro e w6 ⟨⟨a2, c2, rfl, k2⟩, hb⟩
  replace HX := Lib.hid (HX.out.step hb)
  replace HB := Lib.hid (HB.out.trans (hb.mono HB.out.size))
  have K2 := Lib.hid k2
  clear hb k2
  have HXx0 := HX.out.g0
  have HXx1 := HX.out.g1
  have HXx2 := HX.out.g2
  have HXlt := HX.out.lt
  go_wp2_with fail
  clear HXx0 HXx1 HXx2 HXlt
  have hb := (Below.refl w6.heap.size w6).alloc (Nat.le_refl _) (.cells #[.int .i64 h, .int .i64 l, .slice a2 f.len c2] 29)
  have hy : Boxes (w6.alloc (.cells #[.int .i64 h, .int .i64 l, .slice a2 f.len c2] 29)) w6.heap.size 29 #[.int .i64 h, .int .i64 l, .slice a2 f.len c2] := World.alloc_heap_new _ _
  generalize hgw : w6.alloc (.cells #[.int .i64 h, .int .i64 l, .slice a2 f.len c2] 29) = w7 at *
  replace HX := Lib.hid (HX.out.step hb)
  replace HB := Lib.hid (HB.out.trans (hb.mono HB.out.size))
  replace K2 := Lib.hid (K2.out.step hb)
  generalize w6.heap.size = py at *
  have HY := Lib.hid hy
  clear hb hy hgw
  refine (toInt64S_any ar zs cr _ (HI.out.below HB.out (Nat.le_refl _)) hs).mono ?_
  rintro e w8 ⟨rfl, hz, hrow, hb⟩
  replace HX := Lib.hid (HX.out.step hb)
  replace HB := Lib.hid (HB.out.trans (hb.mono HB.out.size))
  replace K2 := Lib.hid (K2.out.step hb)
  replace HY := Lib.hid (HY.out.step hb)
  have M2 := Lib.hid (Ints.of_row hrow)
  clear hb hrow hz
  have HXx0 := HX.out.g0
  have HXx1 := HX.out.g1
  have HXx2 := HX.out.g2
  have HXlt := HX.out.lt
  have HYx0 := HY.out.g0
  have HYx1 := HY.out.g1
  have HYx2 := HY.out.g2
  have HYlt := HY.out.lt
  go_wp2_with fail
  refine (implGo_any f hsz _ x0 h l a2 c2 _ zs _ w8 K2.out M2.out hli).mono ?_
  clear HXx0 HXx1 HXx2 HXlt HYx0 HYx1 HYx2 HYlt
  rintro e w9 ⟨rfl, hb⟩
  replace HX := Lib.hid (HX.out.step hb)
  replace HB := Lib.hid (HB.out.trans (hb.mono HB.out.size))
  replace K2 := Lib.hid (K2.out.step hb)
  replace HY := Lib.hid (HY.out.step hb)
  replace M2 := Lib.hid (Ints.step hb M2.out)
  clear hb
  have HXx0 := HX.out.g0
  have HXx1 := HX.out.g1
  have HXx2 := HX.out.g2
  have HXlt := HX.out.lt
  have HYx0 := HY.out.g0
  have HYx1 := HY.out.g1
  have HYx2 := HY.out.g2
  have HYlt := HY.out.lt
  go_wp2_with fail
  go_region_law ((first | (go_simp; go_at_call 8; refine (toGate_of h l 0 a f c _ (fun W hW => toGateS_any 1048577 f (by omega) (by omega) 0 a c W hW) (by first | exact HK.out.below HB.out (Nat.le_refl _) | exact HK.out.below HB.out.drew (Nat.le_refl _))).mono ?_; rintro e w8 ⟨⟨a3, c3, rfl, k3⟩, hb8⟩; have HB8 := Lib.hid (show Below w.heap.size w w8 by first | exact HB.out.trans (hb8.mono HB.out.size) | exact HB.out.drew.trans (hb8.mono HB.out.size)); have HX8 := Lib.hid (show Boxes w8 w.heap.size 24 #[.int .i64 h, .int .i64 l, .slice a f.len c] by first | exact HX.out.step hb8 | exact (HX.out.step (drew_step _)).step hb8); have HY8 := Lib.hid (show Boxes w8 py 29 #[.int .i64 h, .int .i64 l, .slice a2 f.len c2] by first | exact HY.out.step hb8 | exact (HY.out.step (drew_step _)).step hb8); have HK8 := Lib.hid (show Kids w8 (w5.heap.size + 3) a2 f by first | exact K2.out.step hb8 | exact (K2.out.step (drew_step _)).step hb8); have M28 := Lib.hid (show Ints w8 _ zs by first | exact Ints.step hb8 M2.out | exact Ints.step hb8 (Ints.step (drew_step _) M2.out)); have z4 := HY8.out.g0; have z5 := HY8.out.g1; have z6 := HY8.out.g2; have lz := HY8.out.lt; have HK3 := Lib.hid k3) | (go_simp; go_at_call 10; refine (eqGate_of h l _ _ a2 a3 f c2 c3 _ (fun W hW1 hW2 => eqGateS_any (f.size + 1) f (Nat.lt_succ_self _) _ _ a2 a3 c2 c3 W HL.out HW.out hW1 hW2) (by first | exact HK8.out | exact HK8.out.step (drew_step _)) (by first | exact HK3.out | exact HK3.out.step (drew_step _))).mono ?_; rintro e w9 ⟨rfl, hb9⟩; have HB9 := Lib.hid (show Below w.heap.size w w9 by first | exact HB8.out.trans (hb9.mono HB8.out.size) | exact HB8.out.drew.trans (hb9.mono HB8.out.size)); have HX9 := Lib.hid (show Boxes w9 w.heap.size 24 #[.int .i64 h, .int .i64 l, .slice a f.len c] by first | exact HX8.out.step hb9 | exact (HX8.out.step (drew_step _)).step hb9); have HY9 := Lib.hid (show Boxes w9 py 29 #[.int .i64 h, .int .i64 l, .slice a2 f.len c2] by first | exact HY8.out.step hb9 | exact (HY8.out.step (drew_step _)).step hb9); have K9 := Lib.hid (show Kids w9 (w5.heap.size + 3) a2 f by first | exact HK8.out.step hb9 | exact (HK8.out.step (drew_step _)).step hb9); have M29 := Lib.hid (show Ints w9 _ zs by first | exact Ints.step hb9 M28.out | exact Ints.step hb9 (Ints.step (drew_step _) M28.out)))))
  all_goals (
    clear HXx0 HXx1 HXx2 HXlt HYx0 HYx1 HYx2 HYlt z4 z5 z6 lz
    replace HB := HB9
    replace HX := HX9
    replace HY := HY9
    replace K2 := K9
    replace M2 := M29
    skip
    have HXx0 := HX.out.g0
    have HXx1 := HX.out.g1
    have HXx2 := HX.out.g2
    have HXlt := HX.out.lt
    have HYx0 := HY.out.g0
    have HYx1 := HY.out.g1
    have HYx2 := HY.out.g2
    have HYlt := HY.out.lt
    go_wp2_with fail
    refine (toInt64S_any ar zs cr _ (by first | exact HI.out.below HB.out (Nat.le_refl _) | exact HI.out.below HB.out.drew (Nat.le_refl _)) hs).mono ?_
    clear HXx0 HXx1 HXx2 HXlt HYx0 HYx1 HYx2 HYlt
    rintro e w10 ⟨rfl, hz, hrow, hb⟩
    have HB10 := Lib.hid (show Below w.heap.size w w10 by first | exact HB.out.trans (hb.mono HB.out.size) | exact HB.out.drew.trans (hb.mono HB.out.size))
    have M10 := Lib.hid (show Ints w10 _ zs by first | exact Ints.step hb M2.out | exact Ints.step hb (Ints.step (drew_step _) M2.out))
    have Y10 := Lib.hid (Ints.of_row hrow)
    clear hb hrow hz
    go_wp2_with fail
    refine (eqInt64S_same _ _ zs _ _ _ M10.out Y10.out (by omega)).mono ?_
    rintro e w11 ⟨rfl, hq⟩
    have HB11 := Lib.hid (HB10.out.trans ((quiet_below hq).mono HB10.out.size))
    clear hq
    go_wp2_with fail
    go_ret
    exact ⟨rfl, HB11.out⟩)

theorem own : ownKnob Try.prog.godebug = none := by kernel_rfl
theorem laidOut : laidOutB Try.prog = true := by kernel_rfl

set_option maxRecDepth 100000 in
theorem lifted (os : Os) (started : os.Started) (H : Type) (enc : TypeId × Value → H) :
    ReturnsInHanded {} Try.checked os 4 .any (Rows.fnExactGateOpensSpec.pre6 enc Try.prog Try.f4 Rows.fnExactGateOpensRow.domain false) (Rows.fnExactGateOpensSpec.post enc Try.prog Try.f4 false true false false) := by
  refine returnsInHanded_of_change (C := Try.checked) own started (by kernel_rfl) Try.func4
    (ChangeSpec.witness6 (enc := enc) (C := Try.checked) false ⟨#[], #[.int .i64 0, .agg #[.int .i64 0, .int .i64 0, .slice none 0 0], .slice none 0 0], []⟩ 8 (by kernel_rfl) (by kernel_rfl) (by kernel_rfl) (by kernel_rfl)) ?_
  intro W base args ds gs before hval0 hW hcnd _
  have hval : ∀ (j : Nat) t v, Try.f4.params[j]? = some t → args[j]? = some v → Value.okWide Try.prog W .any base t v := hval0
  have hW' := hW
  obtain ⟨p, q, hA0, hV, rfl, hfz, hnd⟩ := hW
  have hA : DataW.TrodAll enc Try.prog W 0 (fun _ => true) true Try.f4.params.toList args.toList ds p := hA0
  rw [Try.params4] at hA hval
  obtain ⟨v0, vs0, d0, ds0, p0, q0, hargs, rfl, rfl, h0, r0⟩ := trodAll_cons hA
  obtain ⟨v1, vs1, d1, ds1, p1, q1, rfl, rfl, rfl, h1, r1⟩ := trodAll_cons r0
  obtain ⟨v2, vs2, d2, ds2, p2, q2, rfl, rfl, rfl, h2, r2⟩ := trodAll_cons r1
  obtain ⟨rfl, rfl, rfl⟩ := trodAll_nil r2
  obtain rfl : args = #[v0, v1, v2] := by cases args; simp_all
  obtain ⟨rfl, rfl⟩ := trodVars_none hV
  obtain ⟨x0, rfl, rfl, rfl, w0⟩ := open_int Try.underlying2 (hval 0 2 v0 rfl rfl) h0
  have k1 := h1
  have lt1 : ∀ x ∈ p1, x.block < W.heap.size := by obtain ⟨m, hm⟩ := k1; exact DataW.trod_lt m _ _ _ hm
  obtain ⟨hh1, kk1, a1, z1, c1, rfl, rr1, ll1, ww1⟩ := open_gate (hval 1 24 v1 rfl rfl) h1
  have k2 := h2
  have lt2 : ∀ x ∈ p2, x.block < W.heap.size := by obtain ⟨m, hm⟩ := k2; exact DataW.trod_lt m _ _ _ hm
  obtain ⟨a2, len2, c2, rfl⟩ := okWide_slice Try.underlying33 (hval 2 33 v2 rfl rfl)
  obtain ⟨fuel2, hf2⟩ := h2
  obtain ⟨z2, rfl, rr2, ll2⟩ := open_ints1 (by simpa [Value.cells] using hf2)
  clear hA0 hval0
  refine (law x0 hh1 kk1 a1 z1 c1 a2 z2 c2 W w0 rr1 ll1 ww1 rr2 ll2).mono fun e W' ⟨he, bel⟩ => ?_
  subst he
  exact ⟨_, rfl, _, _, _, [], _, [], hW', trodAll_mk1 (shut_bool Try.underlying4 _), (trodAll_cons_mk (shut_int Try.underlying2 w0) (trodAll_cons_mk (Below.trod laidOut (by kernel_rfl) (of_decide_eq_true (by kernel_rfl)) k1 bel lt1) (trodAll_cons_mk (Below.trod laidOut (by kernel_rfl) (of_decide_eq_true (by kernel_rfl)) k2 bel lt2) trodAll_mk0))), rfl, bel.frame _, fun h => by cases h⟩

theorem over : Rows.fnExactGateOpensRow.holds Try.pinned (OpenSpec.ofChange Rows.fnExactGateOpensSpec) :=
  OpenClaim.holds_of_wide 4 Try.f4 rfl rfl rfl rfl rfl rfl rfl ⟨rfl, rfl, rfl, rfl, rfl⟩ rfl rfl rfl rfl rfl (by kernel_rfl) Try.func4 (by kernel_rfl)
    (of_decide_eq_true (by kernel_rfl)) (by unfold Func.isWrapper; first | (rw [if_pos (by decide +kernel)]; kernel_rfl) | (rw [if_neg (by decide +kernel)]; exact ⟨rfl, rfl⟩))
    (fun os started H enc _ => lifted os started H enc)

theorem proved : Rows.FnExactGateOpensSaid := over

end GateOpens
end Go.Proofs.Ytikccnimlgdcnaa

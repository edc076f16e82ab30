/- 'laws.FnExactValidGate': for every argument, valid or not, the program's function answers what the model's answers, and writes into nothing that it was given. No condition. -/
import Derived.Test.YtikccnimlgdcnaaTs
import Derived.Test.YtikccnimlgdcnaaTt
import Derived.Test.YtikccnimlgdcnaaTe
import Derived.Test.YtikccnimlgdcnaaVg2
import Derived.Deep.RegionLaw
import Derived.Deep.DrawnRows
namespace Go.Proofs.Ytikccnimlgdcnaa
open Go.ChangeShapes Go.WideShapes Go.ChangeAt Go.RowKit Go.Deep
set_option linter.unusedVariables false
namespace ValidGate

set_option maxRecDepth 100000 in
set_option maxHeartbeats 4000000 in
theorem law (x0 : Int) (h l : Int) (a : Option Addr) (f : Fo) (c : Nat) (w : World) (wf0 : (Lit.int .i64 x0).wf = true) (hk : Kids w 0 a f) (hl : f.len ≤ 9223372036854775807) (hw : f.wide) :
    Calls Try.prog 3 #[.int .i64 x0, .agg #[.int .i64 h, .int .i64 l, .slice a f.len c]] w fun e w' => e = .returned (.bool true) ∧ Below w.heap.size w w' := by
  have HK := Lib.hid hk
  have HL := Lib.hid hl
  have HW := Lib.hid hw
  clear hk hl hw
  go_enter Try.func3, Try.ntmps3
  go_wp2_with fail
  have hb1 := (Below.refl w.heap.size w).alloc (Nat.le_refl _) (.cells #[.int .i64 h, .int .i64 l, .slice a f.len c] 24)
  have hx1 : Boxes (w.alloc (.cells #[.int .i64 h, .int .i64 l, .slice a f.len c] 24)) w.heap.size 24 #[.int .i64 h, .int .i64 l, .slice a f.len c] := World.alloc_heap_new _ _
  refine (szGate_of h l 0 a f c 1048576 _ (fun W hW => szGateS_any f.size f (Nat.le_refl _) 0 a c 1048576 W hW HL.out HW.out (by omega) (by omega)) (HK.out.step hb1)).mono ?_
  generalize w.alloc (.cells #[.int .i64 h, .int .i64 l, .slice a f.len c] 24) = w1 at *
  rintro e w2 ⟨⟨v, hv, rfl⟩, hb2⟩
  have HX := Lib.hid (hx1.step hb2)
  have HB := Lib.hid (hb1.trans (hb2.mono hb1.size))
  clear hx1 hb1 hb2
  rcases hv with rfl | ⟨h0, h1⟩
  · go_wp2_with fail
    go_ret
    exact ⟨rfl, HB.out⟩
  have hsz : f.size ≤ 1048576 := by omega
  have x4 := HX.out.g0
  have x5 := HX.out.g1
  have x6 := HX.out.g2
  have lx := HX.out.lt
  go_wp2_with fail
  refine (toGate_of h l 0 a f c w2 (fun W hW => toGateS_any 1048577 f (by omega) (by omega) 0 a c W hW) (HK.out.below HB.out (Nat.le_refl _))).mono ?_
  clear x4 x5 x6 lx
  rintro e w3 ⟨⟨a1, c1, rfl, k1⟩, hb3⟩
  replace HX := Lib.hid (HX.out.step hb3)
  replace HB := Lib.hid (HB.out.trans (hb3.mono HB.out.size))
  clear hb3 h0 h1
  have x4 := HX.out.g0
  have x5 := HX.out.g1
  have x6 := HX.out.g2
  have lx := HX.out.lt
  go_wp2_with fail
  refine (specVg_any f hsz _ x0 h l a1 c1 w3 k1).mono ?_
  clear x4 x5 x6 lx
  rintro e w4 ⟨rfl, hb4⟩
  replace HX := Lib.hid (HX.out.step hb4)
  replace HB := Lib.hid (HB.out.trans (hb4.mono HB.out.size))
  clear hb4 k1
  have x4 := HX.out.g0
  have x5 := HX.out.g1
  have x6 := HX.out.g2
  have lx := HX.out.lt
  go_wp2_with fail
  refine (toGate_of h l 0 a f c w4 (fun W hW => toGateS_any 1048577 f (by omega) (by omega) 0 a c W hW) (HK.out.below HB.out (Nat.le_refl _))).mono ?_
  clear x4 x5 x6 lx
  rintro e w5 ⟨⟨a2, c2, rfl, k2⟩, hb5⟩
  replace HX := Lib.hid (HX.out.step hb5)
  replace HB := Lib.hid (HB.out.trans (hb5.mono HB.out.size))
  clear hb5
  have x4 := HX.out.g0
  have x5 := HX.out.g1
  have x6 := HX.out.g2
  have lx := HX.out.lt
  go_wp2_with fail
  have hb6 := (Below.refl w5.heap.size w5).alloc (Nat.le_refl _) (.cells #[.int .i64 h, .int .i64 l, .slice a2 f.len c2] 29)
  have hy6 : Boxes (w5.alloc (.cells #[.int .i64 h, .int .i64 l, .slice a2 f.len c2] 29)) w5.heap.size 29 #[.int .i64 h, .int .i64 l, .slice a2 f.len c2] := World.alloc_heap_new _ _
  refine (implVg_any f hsz _ x0 h l a2 c2 _ (k2.step hb6)).mono ?_
  clear x4 x5 x6 lx
  generalize w5.alloc (.cells #[.int .i64 h, .int .i64 l, .slice a2 f.len c2] 29) = w6 at *
  rintro e w7 ⟨rfl, hb7⟩
  have hb57 := hb6.trans (hb7.mono hb6.size)
  replace HX := Lib.hid (HX.out.step hb57)
  replace HB := Lib.hid (HB.out.trans (hb57.mono HB.out.size))
  have HY := Lib.hid (hy6.step hb7)
  have HK2 := Lib.hid (k2.step hb57)
  clear hb6 hy6 hb7 hb57 k2
  have x4 := HX.out.g0
  have x5 := HX.out.g1
  have x6 := HX.out.g2
  have lx := HX.out.lt
  have y4 := HY.out.g0
  have y5 := HY.out.g1
  have y6 := HY.out.g2
  have ly := HY.out.lt
  go_wp2_with fail
  go_region_law ((first | (go_simp; go_at_call 8; refine (toGate_of h l 0 a f c _ (fun W hW => toGateS_any 1048577 f (by omega) (by omega) 0 a c W hW) (by first | exact HK.out.below HB.out (Nat.le_refl _) | exact HK.out.below HB.out.drew (Nat.le_refl _))).mono ?_; rintro e w8 ⟨⟨a3, c3, rfl, k3⟩, hb8⟩; have HB8 := Lib.hid (show Below w.heap.size w w8 by first | exact HB.out.trans (hb8.mono HB.out.size) | exact HB.out.drew.trans (hb8.mono HB.out.size)); have HY8 := Lib.hid (show Boxes w8 w5.heap.size 29 #[.int .i64 h, .int .i64 l, .slice a2 f.len c2] by first | exact HY.out.step hb8 | exact (HY.out.step (drew_step _)).step hb8); have HK8 := Lib.hid (show Kids w8 (w4.heap.size + 3) a2 f by first | exact HK2.out.step hb8 | exact (HK2.out.step (drew_step _)).step hb8); have z4 := HY8.out.g0; have z5 := HY8.out.g1; have z6 := HY8.out.g2; have lz := HY8.out.lt; have HK3 := Lib.hid k3) | (go_simp; go_at_call 10; refine (eqGate_of h l _ _ a2 a3 f c2 c3 _ (fun W hW1 hW2 => eqGateS_any (f.size + 1) f (Nat.lt_succ_self _) _ _ a2 a3 c2 c3 W HL.out HW.out hW1 hW2) (by first | exact HK8.out | exact HK8.out.step (drew_step _)) (by first | exact HK3.out | exact HK3.out.step (drew_step _))).mono ?_; rintro e w9 ⟨rfl, hb9⟩; have HB9 := Lib.hid (show Below w.heap.size w w9 by first | exact HB8.out.trans (hb9.mono HB8.out.size) | exact HB8.out.drew.trans (hb9.mono HB8.out.size)))))
  all_goals (
    clear x4 x5 x6 lx y4 y5 y6 ly z4 z5 z6 lz
    go_wp2_with fail
    go_ret
    exact ⟨rfl, by first | exact HB9.out | exact HB9.out.drew⟩)

theorem own : ownKnob Try.prog.godebug = none := by kernel_rfl
theorem laidOut : laidOutB Try.prog = true := by kernel_rfl

set_option maxRecDepth 100000 in
theorem lifted (os : Os) (started : os.Started) (H : Type) (enc : TypeId × Value → H) :
    ReturnsInHanded {} Try.checked os 3 .any (Rows.fnExactValidGateSpec.pre6 enc Try.prog Try.f3 Rows.fnExactValidGateRow.domain false) (Rows.fnExactValidGateSpec.post enc Try.prog Try.f3 false true false false) := by
  refine returnsInHanded_of_change (C := Try.checked) own started (by kernel_rfl) Try.func3
    (ChangeSpec.witness6 (enc := enc) (C := Try.checked) false ⟨#[], #[.int .i64 0, .agg #[.int .i64 0, .int .i64 0, .slice none 0 0]], []⟩ 8 (by kernel_rfl) (by kernel_rfl) (by kernel_rfl) (by kernel_rfl)) ?_
  intro W base args ds gs before hval0 hW hcnd _
  have hval : ∀ (j : Nat) t v, Try.f3.params[j]? = some t → args[j]? = some v → Value.okWide Try.prog W .any base t v := hval0
  have hW' := hW
  obtain ⟨p, q, hA0, hV, rfl, hfz, hnd⟩ := hW
  have hA : DataW.TrodAll enc Try.prog W 0 (fun _ => true) true Try.f3.params.toList args.toList ds p := hA0
  rw [Try.params3] at hA hval
  obtain ⟨v0, vs0, d0, ds0, p0, q0, hargs, rfl, rfl, h0, r0⟩ := trodAll_cons hA
  obtain ⟨v1, vs1, d1, ds1, p1, q1, rfl, rfl, rfl, h1, r1⟩ := trodAll_cons r0
  obtain ⟨rfl, rfl, rfl⟩ := trodAll_nil r1
  obtain rfl : args = #[v0, v1] := by cases args; simp_all
  obtain ⟨rfl, rfl⟩ := trodVars_none hV
  obtain ⟨x0, rfl, rfl, rfl, w0⟩ := open_int Try.underlying2 (hval 0 2 v0 rfl rfl) h0
  have k1 := h1
  have lt1 : ∀ x ∈ p1, x.block < W.heap.size := by obtain ⟨m, hm⟩ := k1; exact DataW.trod_lt m _ _ _ hm
  obtain ⟨hh1, kk1, a1, z1, c1, rfl, rr1, ll1, ww1⟩ := open_gate (hval 1 24 v1 rfl rfl) h1
  clear hA0 hval0
  refine (law x0 hh1 kk1 a1 z1 c1 W w0 rr1 ll1 ww1).mono fun e W' ⟨he, bel⟩ => ?_
  subst he
  exact ⟨_, rfl, _, _, _, [], _, [], hW', trodAll_mk1 (shut_bool Try.underlying4 _), (trodAll_cons_mk (shut_int Try.underlying2 w0) (trodAll_cons_mk (Below.trod laidOut (by kernel_rfl) (of_decide_eq_true (by kernel_rfl)) k1 bel lt1) trodAll_mk0)), rfl, bel.frame _, fun h => by cases h⟩

theorem over : Rows.fnExactValidGateRow.holds Try.pinned (OpenSpec.ofChange Rows.fnExactValidGateSpec) :=
  OpenClaim.holds_of_wide 3 Try.f3 rfl rfl rfl rfl rfl rfl rfl ⟨rfl, rfl, rfl, rfl, rfl⟩ rfl rfl rfl rfl rfl (by kernel_rfl) Try.func3 (by kernel_rfl)
    (of_decide_eq_true (by kernel_rfl)) (by unfold Func.isWrapper; first | (rw [if_pos (by decide +kernel)]; kernel_rfl) | (rw [if_neg (by decide +kernel)]; exact ⟨rfl, rfl⟩))
    (fun os started H enc _ => lifted os started H enc)

theorem proved : Rows.FnExactValidGateSaid := over

end ValidGate
end Go.Proofs.Ytikccnimlgdcnaa

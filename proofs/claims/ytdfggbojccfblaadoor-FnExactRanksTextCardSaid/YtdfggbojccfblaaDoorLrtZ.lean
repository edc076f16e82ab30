/- LrtA Lrt1 Lrt2 Lrt3 in one text. -/
import Derived.Test.YtdfggbojccfblaaDoorRt2
import Derived.Test.YtdfggbojccfblaaDoorLawA
import Derived.Test.YtdfggbojccfblaaDoorMk2f
import Derived.Deep.RegionHeld3
import Derived.Deep.CutRange
import Derived.Test.YtdfggbojccfblaaDoorOpen
import Derived.Test.YtdfggbojccfblaaDoorCp
import Derived.LaidHandle
import Derived.LaidLaws
import Derived.LaidMore
import Derived.Test.YtdfggbojccfblaaDoorLrtC
import Derived.Test.YtdfggbojccfblaaDoorLrtD
import Derived.Test.YtdfggbojccfblaaDoorTie
namespace Go.Proofs.YtdfggbojccfblaaDoor
open Go.ChangeShapes Go.WideShapes Go.ChangeAt Go.RowKit Go.Deep
set_option linter.unusedVariables false
namespace Rtx

/-- What is carried over the second half. -/
structure Carry (v4 : World) (g0 : Nat) (z0 : List Int) (px0 : Nat) (h0 : Int) (l0 : Int) (W : World) : Prop where
  e : Below v4.heap.size v4 W
  x0 : OwnI W g0 (.slice (some ⟨g0, 0, none⟩) z0.length z0.length) z0
  b0 : Boxes W px0 27 #[.int .i64 h0, .int .i64 l0, .slice (some ⟨g0, 0, none⟩) z0.length z0.length]

theorem Carry.step {v4 : World} {g0 : Nat} {z0 : List Int} {px0 : Nat} {h0 : Int} {l0 : Int} {W W' : World} (hb : Below W.heap.size W W') (k : Carry v4 g0 z0 px0 h0 l0 W) : Carry v4 g0 z0 px0 h0 l0 W' := ⟨chain k.e hb, k.x0.step hb, k.b0.step hb⟩
theorem keep6 {w w' : World} {p1 p2 p3 p4 p5 p6 : Addr} {u1 u2 u3 u4 u5 u6 : Value} {C : World → Prop} (hb : Below w.heap.size w w') (hC : C w → C w') (h : w.cell? p1 = some u1 ∧ w.cell? p2 = some u2 ∧ w.cell? p3 = some u3 ∧ w.cell? p4 = some u4 ∧ w.cell? p5 = some u5 ∧ w.cell? p6 = some u6 ∧ C w) : w'.cell? p1 = some u1 ∧ w'.cell? p2 = some u2 ∧ w'.cell? p3 = some u3 ∧ w'.cell? p4 = some u4 ∧ w'.cell? p5 = some u5 ∧ w'.cell? p6 = some u6 ∧ C w' :=
  ⟨cell_step hb h.1, cell_step hb h.2.1, cell_step hb h.2.2.1, cell_step hb h.2.2.2.1, cell_step hb h.2.2.2.2.1, cell_step hb h.2.2.2.2.2.1, hC h.2.2.2.2.2.2⟩

set_option maxHeartbeats 4000000 in
set_option maxRecDepth 100000 in
theorem law_of (h0 l0 : Int) (a0 : Option Addr) (z0 : List Int) (c0 : Nat) (rs : ByteArray) (w : World) (hr0 : Ints w a0 z0) (hl0 : LenI z0) (wfh0 : (Lit.int .i64 h0).wf = true) (wfl0 : (Lit.int .i64 l0).wf = true)
    (GL : World → Prop) (hgl : ∀ W : World, Below w.heap.size w W → GL W)
    (hS : ∀ (b0 : Option Addr) (d0 : Nat) (W : World), Ints W b0 z0 → SmI z0 → Calls Tryd.prog 9 #[.agg #[.int .i64 h0, .int .i64 l0, .slice b0 z0.length d0]] W (fun e w' => e = .returned (.string rs) ∧ Below W.heap.size W w'))
    (hI : ∀ (b0 : Option Addr) (d0 : Nat) (W : World), GL W → Ints W b0 z0 → SmI z0 → Calls Tryd.prog 11 #[.agg #[.int .i64 h0, .int .i64 l0, .slice b0 z0.length d0]] W (fun e w' => e = .returned (.string rs) ∧ Below W.heap.size W w'))
     :
    Calls Tryd.prog 3 #[.agg #[.int .i64 h0, .int .i64 l0, .slice a0 z0.length c0]] w fun e w' => e = .returned (.bool true) ∧ Below w.heap.size w w' := by
  have HSP := Lib.hid hS
  have HIM := Lib.hid hI
  clear hS hI
  have HGL := Lib.hid hgl
  clear hgl
  have D := Lib.hid (Below.refl w.heap.size w)
  have R0 := Lib.hid hr0
  clear hr0
  have L0 := Lib.hid hl0
  clear hl0
  go_enter Tryd.func3, Tryd.ntmps3
  go_wp2_with fail
  have hb := (Below.refl (w).heap.size (w)).alloc (Nat.le_refl _) (.cells #[.int .i64 h0, .int .i64 l0, .slice a0 z0.length c0] 24)
  have ha0 : Boxes ((w).alloc (.cells #[.int .i64 h0, .int .i64 l0, .slice a0 z0.length c0] 24)) (w).heap.size 24 #[.int .i64 h0, .int .i64 l0, .slice a0 z0.length c0] := World.alloc_heap_new _ _
  replace D := Lib.hid (chain D.out hb)
  replace R0 := Lib.hid (R0.out.step hb)
  clear hb
  skip
  generalize hv1 : (w).alloc (.cells #[.int .i64 h0, .int .i64 l0, .slice a0 z0.length c0] 24) = v1 at *
  have B0 := Lib.hid ha0
  clear ha0
  clear hv1
  refine (szRanks2_any h0 l0 a0 z0 c0 1048576 _ R0.out (by omega) (by omega) L0.out).mono ?_
  rintro e w1 ⟨⟨u0, hu0, rfl⟩, hb⟩
  replace D := Lib.hid (chain D.out hb)
  replace R0 := Lib.hid (R0.out.step hb)
  replace B0 := Lib.hid (B0.out.step hb)
  clear hb
  rcases hu0 with rfl | ⟨hu00, hut0, hu01, hsm0⟩
  · go_wp2_with fail
    go_ret
    exact ⟨rfl, D.out⟩
  have S0 := Lib.hid hsm0
  have hz0 : z0.length ≤ 1048576 := hsm0.1
  clear hsm0
  have TT0 := Lib.hid hut0
  clear hut0
  have B0c0 := (B0.out).m0
  have B0c1 := (B0.out).m1
  have B0c2 := (B0.out).m2
  have B0lt := (B0.out).lt
  go_wp2_with fail
  clear B0c0 B0c1 B0c2 B0lt
  refine (toRanks_any h0 l0 a0 z0 c0 _ R0.out S0.out).mono ?_
  rintro e w2 ⟨rfl, hz, hrow, hb⟩
  replace D := Lib.hid (chain D.out hb)
  replace R0 := Lib.hid (R0.out.step hb)
  replace B0 := Lib.hid (B0.out.step hb)
  have M0 := Lib.hid (hrow.rows)
  clear hb hrow hz
  have B0c0 := (B0.out).m0
  have B0c1 := (B0.out).m1
  have B0c2 := (B0.out).m2
  have B0lt := (B0.out).lt
  go_wp2_with fail
  clear B0c0 B0c1 B0c2 B0lt
  refine (HSP.out _ _ _ M0.out S0.out).mono ?_
  rintro e w3 ⟨rfl, hb⟩
  replace D := Lib.hid (chain D.out hb)
  replace R0 := Lib.hid (R0.out.step hb)
  replace B0 := Lib.hid (B0.out.step hb)
  clear hb M0
  have B0c0 := (B0.out).m0
  have B0c1 := (B0.out).m1
  have B0c2 := (B0.out).m2
  have B0lt := (B0.out).lt
  go_wp2_with fail
  clear B0c0 B0c1 B0c2 B0lt
  generalize w3 = v4 at *
  have E := Lib.hid (Below.refl v4.heap.size v4)
  refine (toRanks_any h0 l0 a0 z0 c0 _ (R0.out.step E.out) S0.out).mono ?_
  rintro e w4 ⟨rfl, hz, hrow, hb⟩
  obtain ⟨g0, hg0⟩ : ∃ g, v4.heap.size + 3 = g := ⟨_, rfl⟩
  rw [hg0] at hrow ⊢
  have hlo : v4.heap.size ≤ g0 := by omega
  replace E := Lib.hid (chain E.out hb)
  have X0 := Lib.hid hrow
  have G0 := Lib.hid (show v4.heap.size ≤ g0 ∧ g0 + 1 ≤ w4.heap.size from ⟨hlo, by omega⟩)
  clear hb hrow hz hg0 hlo
  have B0c0 := (B0.out.step E.out).m0
  have B0c1 := (B0.out.step E.out).m1
  have B0c2 := (B0.out.step E.out).m2
  have B0lt := (B0.out.step E.out).lt
  go_wp2_with fail
  clear B0c0 B0c1 B0c2 B0lt
  have hsz : w4.heap.size ≤ (w4.alloc (.cells #[.int .i64 h0, .int .i64 l0, .slice (some ⟨g0, 0, none⟩) z0.length z0.length] 27)).heap.size := by simp
  replace G0 := Lib.hid (show v4.heap.size ≤ g0 ∧ g0 + 1 ≤ (w4.alloc (.cells #[.int .i64 h0, .int .i64 l0, .slice (some ⟨g0, 0, none⟩) z0.length z0.length] 27)).heap.size from ⟨G0.out.1, Nat.le_trans G0.out.2 hsz⟩)
  have HPX0 := Lib.hid (show v4.heap.size ≤ w4.heap.size from E.out.size)
  clear hsz
  have hb := (Below.refl w4.heap.size w4).alloc (Nat.le_refl _) (.cells #[.int .i64 h0, .int .i64 l0, .slice (some ⟨g0, 0, none⟩) z0.length z0.length] 27)
  have ha : Boxes (w4.alloc (.cells #[.int .i64 h0, .int .i64 l0, .slice (some ⟨g0, 0, none⟩) z0.length z0.length] 27)) w4.heap.size 27 #[.int .i64 h0, .int .i64 l0, .slice (some ⟨g0, 0, none⟩) z0.length z0.length] := World.alloc_heap_new w4 _
  generalize w4.alloc (.cells #[.int .i64 h0, .int .i64 l0, .slice (some ⟨g0, 0, none⟩) z0.length z0.length] 27) = y0 at *
  replace E := Lib.hid (chain E.out hb)
  replace X0 := Lib.hid (X0.out.step hb)
  have PX0 := Lib.hid ha
  clear hb ha
  generalize w4.heap.size = px0 at *
  refine (HIM.out _ _ y0 (HGL.out _ (chain D.out E.out)) X0.out.rows S0.out).mono ?_
  rintro e w5 ⟨rfl, hb⟩
  replace E := Lib.hid (chain E.out hb)
  replace X0 := Lib.hid (X0.out.step hb)
  replace PX0 := Lib.hid (PX0.out.step hb)
  clear hb
  have B0c0 := (B0.out.step E.out).m0
  have B0c1 := (B0.out.step E.out).m1
  have B0c2 := (B0.out.step E.out).m2
  have B0lt := (B0.out.step E.out).lt
  have PX0c0 := (PX0.out).m0
  have PX0c1 := (PX0.out).m1
  have PX0c2 := (PX0.out).m2
  have PX0lt := (PX0.out).lt
  go_wp2_with fail
  clear B0c0 B0c1 B0c2 B0lt PX0c0 PX0c1 PX0c2 PX0lt
  have K : Carry v4 g0 z0 px0 h0 l0 _ := ⟨E.out, X0.out, PX0.out⟩
  have B0c0 := (B0.out.step E.out).m0
  have B0c1 := (B0.out.step E.out).m1
  have B0c2 := (B0.out.step E.out).m2
  have B0lt := (B0.out.step E.out).lt
  have PX0c0 := (PX0.out).m0
  have PX0c1 := (PX0.out).m1
  have PX0c2 := (PX0.out).m2
  have PX0lt := (PX0.out).lt
  go_wp2_with fail
  go_region_held3 (fun w' => w'.cell? ⟨w.heap.size, 0, none⟩ = some (.int .i64 h0) ∧ w'.cell? ⟨w.heap.size, 1, none⟩ = some (.int .i64 l0) ∧ w'.cell? ⟨w.heap.size, 2, none⟩ = some (.slice a0 z0.length c0) ∧ w'.cell? ⟨px0, 0, none⟩ = some (.int .i64 h0) ∧ w'.cell? ⟨px0, 1, none⟩ = some (.int .i64 l0) ∧ w'.cell? ⟨px0, 2, none⟩ = some (.slice (some ⟨g0, 0, none⟩) z0.length z0.length) ∧ Carry v4 g0 z0 px0 h0 l0 w') (first | exact ⟨cell_step (drew_step _) B0c0, cell_step (drew_step _) B0c1, cell_step (drew_step _) B0c2, cell_step (drew_step _) PX0c0, cell_step (drew_step _) PX0c1, cell_step (drew_step _) PX0c2, K.step (drew_step _)⟩ | exact keep6 hb (fun k => k.step hb) (by assumption)) (first | (go_at_call 10; obtain ⟨_, _, _, _, _, _, KK⟩ := ‹_ ∧ _ ∧ _ ∧ _ ∧ _ ∧ _ ∧ Carry v4 g0 z0 px0 h0 l0 _›; refine (toRanks_any h0 l0 a0 z0 c0 _ (R0.out.step KK.e) S0.out).mono ?_; rintro e wf ⟨rfl, -, hof, hb⟩; have hx1 := KK.x0.step hb; clear KK) | (go_at_call 12; refine (eqRanks_same h0 l0 _ _ z0 _ _ _ hx1.rows hof.rows S0.out.lens).mono ?_; rintro e w9 ⟨rfl, hb⟩))
  clear B0c0 B0c1 B0c2 B0lt PX0c0 PX0c1 PX0c2 PX0lt K hb hx1 hof
  obtain ⟨-, -, -, -, -, -, K⟩ := ‹_ ∧ _ ∧ _ ∧ _ ∧ _ ∧ _ ∧ Carry v4 g0 z0 px0 h0 l0 _›
  replace E := Lib.hid K.e
  replace X0 := Lib.hid K.x0
  replace PX0 := Lib.hid K.b0
  clear K
  have B0c0 := (B0.out.step E.out).m0
  have B0c1 := (B0.out.step E.out).m1
  have B0c2 := (B0.out.step E.out).m2
  have B0lt := (B0.out.step E.out).lt
  have PX0c0 := (PX0.out).m0
  have PX0c1 := (PX0.out).m1
  have PX0c2 := (PX0.out).m2
  have PX0lt := (PX0.out).lt
  go_wp2_with fail
  clear B0c0 B0c1 B0c2 B0lt PX0c0 PX0c1 PX0c2 PX0lt
  go_ret
  exact ⟨rfl, D.out.trans (E.out.mono D.out.size)⟩
end Rtx
end Go.Proofs.YtdfggbojccfblaaDoor

namespace Go.Proofs.YtdfggbojccfblaaDoor
open Go.ChangeShapes Go.WideShapes Go.ChangeAt Go.RowKit Go.Deep
set_option linter.unusedVariables false
namespace Rtx

theorem law (h0 l0 : Int) (a0 : Option Addr) (z0 : List Int) (c0 : Nat) (w : World) (hr0 : Ints w a0 z0) (hl0 : LenI z0) (wfh0 : (Lit.int .i64 h0).wf = true) (wfl0 : (Lit.int .i64 l0).wf = true) (gp : PowTab w) :
    Calls Tryd.prog 3 #[.agg #[.int .i64 h0, .int .i64 l0, .slice a0 z0.length c0]] w fun e w' => e = .returned (.bool true) ∧ Below w.heap.size w w' :=
  law_of h0 l0 a0 z0 c0 (rkTextV h0 l0 z0) w hr0 hl0 wfh0 wfl0 PowTab (fun W hb => gp.step hb) (fun _ _ W r0 s0 => specRt_any h0 l0 _ z0 _ W r0 s0.lens) (fun _ _ W gp r0 s0 => implRt_any h0 l0 _ z0 _ W r0 s0.lens gp)
theorem door_met (os : Os) (args : Array Value) : laidMetH Tryd.prog Rows.fnExactRanksTextRow.laid ((World.doorLaid Tryd.prog 62 os).forCall (fun _ _ => 0) ⟨#[], args, []⟩).memory :=
  laidMetH_of_parts3 (fuel := 8) (laidMet_of_run' 8 (by kernel_rfl) (by kernel_rfl)) (by kernel_rfl) (by kernel_rfl)

set_option maxRecDepth 100000 in
set_option maxHeartbeats 100000000 in
theorem lifted (os : Os) (started : os.Started) (H : Type) (enc : TypeId × Value → H) :
    ReturnsInHanded {} Tryd.checked os 3 .any (fun w args => (Rows.fnExactRanksTextSpec.pre enc Tryd.prog Tryd.f3 [] false w args ∧ laidMetH Tryd.prog Rows.fnExactRanksTextRow.laid w) ∧ sizedMet enc Tryd.prog Tryd.f3 (OpenSpec.ofChange Rows.fnExactRanksTextSpec) false w args)
      (Rows.fnExactRanksTextSpec.post enc Tryd.prog Tryd.f3 false true false false) := by
  refine returnsInHanded_of_change_and (C := Tryd.checked) (X := fun w _ => laidMetH Tryd.prog Rows.fnExactRanksTextRow.laid w) (fun _ _ _ hh h => h.of_heap hh) CardP.own started (by kernel_rfl) Tryd.func3
    (ChangeSpec.witness_shaped (enc := enc) (C := Tryd.checked) (os := os) (X := fun w _ => laidMetH Tryd.prog Rows.fnExactRanksTextRow.laid w) false (World.doorLaid Tryd.prog 62 os) #[.agg #[.int .i64 0, .int .i64 0, .slice none 0 0]] 8 rfl (World.shaped_of_RefB (by kernel_rfl) (by kernel_rfl)) (by kernel_rfl) (by kernel_rfl) (by kernel_rfl) (door_met os _)) ?_
  intro W base args ds gs before hval0 hW _ _ hL _
  have hval : ∀ (j : Nat) t v, Tryd.f3.params[j]? = some t → args[j]? = some v → Value.okWide Tryd.prog W .any base t v := hval0
  have hW' := hW
  obtain ⟨p, q, hA0, hV, rfl, hfz, hnd⟩ := hW
  have hA : DataW.TrodAll enc Tryd.prog W 0 (fun _ => true) true Tryd.f3.params.toList args.toList ds p := hA0
  rw [Tryd.params3] at hA hval
  obtain ⟨v0, vs0, d0, ds0, p0, q0, hargs, rfl, rfl, h0, r0⟩ := trodAll_cons hA
  obtain ⟨rfl, rfl, rfl⟩ := trodAll_nil r0
  obtain rfl : args = #[v0] := by cases args; simp_all
  obtain ⟨rfl, rfl⟩ := trodVars_none hV
  have k0 := h0
  have lt0 : ∀ x ∈ p0, x.block < W.heap.size := by obtain ⟨m, hm⟩ := k0; exact DataW.trod_lt m _ _ _ hm
  obtain ⟨hh0, kk0, a0, z0, c0, rfl, rr0, ll0, wf0, wg0⟩ := open_rk (hval 0 24 v0 rfl rfl) h0
  clear hA0 hval0
  refine (law hh0 kk0 a0 z0 c0 W rr0 ll0 wf0 wg0 (pow_of hL)).mono fun e W' ⟨he, bel⟩ => ?_
  subst he
  exact ⟨_, rfl, _, _, _, [], _, [], hW', trodAll_mk1 (shut_bool Tryd.underlying4 _), (trodAll_cons_mk (Below.trod CardP.laidOut (by kernel_rfl) (of_decide_eq_true (by kernel_rfl)) k0 bel lt0) trodAll_mk0), rfl, bel.frame _, fun h => by cases h⟩


end Rtx
end Go.Proofs.YtdfggbojccfblaaDoor

namespace Go.Proofs.YtdfggbojccfblaaDoor
open Go.ChangeShapes Go.WideShapes Go.ChangeAt Go.RowKit Go.Deep
set_option linter.unusedVariables false
namespace Rtx

theorem over : Rows.fnExactRanksTextRow.holds Tryd.pinned (OpenSpec.ofChange Rows.fnExactRanksTextSpec) :=
  OpenClaim.holds_of_wide 3 Tryd.f3 rfl rfl rfl rfl rfl rfl rfl ⟨rfl, rfl, rfl, rfl, rfl⟩ rfl rfl rfl rfl rfl (by kernel_rfl) Tryd.func3 closed
    (of_decide_eq_true (by kernel_rfl)) (by unfold Func.isWrapper; first | (rw [if_pos (by decide +kernel)]; kernel_rfl) | (rw [if_neg (by decide +kernel)]; exact ⟨rfl, rfl⟩))
    (fun os started H enc _ => lifted os started H enc)

theorem said : Rows.FnExactRanksTextSaid := over

end Rtx
end Go.Proofs.YtdfggbojccfblaaDoor

namespace Go.Proofs.YtdfggbojccfblaaDoor
open Go.ChangeShapes Go.WideShapes Go.ChangeAt Go.RowKit Go.Deep
set_option linter.unusedVariables false
namespace Rtx

theorem plain (f : FuncId) (fn : Func) (hf : Tryd.pinned.checked.prog.funcNamed "loop.example/g01117/laws.FnExactRanksText" = some f) (hfn : Tryd.pinned.checked.prog.funcs[f]? = some fn) :
    true = Tryd.pinned.checked.prog.looks [] ∧ ∀ (j : Nat) t, fn.params[j]? = some t → Tryd.pinned.checked.prog.wantsStandIn t = false := by
  obtain rfl : f = 3 := Option.some.inj (c_named.symm.trans hf) |>.symm
  obtain rfl : fn = Tryd.f3 := (Option.some.inj (Tryd.func3.symm.trans hfn)).symm
  refine ⟨CardP.looks, fun j t ht => ?_⟩
  rw [Tryd.params3] at ht
  have hm : t ∈ [24] := by simpa using Array.mem_of_getElem? ht
  have hall := c_stand
  exact (show Tryd.prog.wantsStandIn t = false by simpa using List.all_eq_true.1 hall t hm)

theorem card : Rows.FnExactRanksTextCardSaid :=
  Claim7.holds_tied_plain_at .later [] _ _ _ _ said (fun _ h => by cases h) c_wf (fun _ h => by cases h) fnExactRanksText_row_tie rfl ⟨rfl, rfl⟩ c_main rfl plain c_goes

end Rtx
end Go.Proofs.YtdfggbojccfblaaDoor

/- 'laws.FnExactValidDeed': for all arguments the program's function gives what the model gives, and writes into nothing that it was given. Tied to the program's text: what the library's tables hold. No other condition. -/
import Derived.Test.YthmjcmhaijiedaaDoorLvdA
import Derived.Test.YthmjcmhaijiedaaDoorOpen
import Derived.Test.YthmjcmhaijiedaaDoorCp
import Derived.LaidHandle
import Derived.LaidLaws
import Derived.LaidMore
namespace Go.Proofs.YthmjcmhaijiedaaDoor
open Go.ChangeShapes Go.WideShapes Go.ChangeAt Go.RowKit Go.Deep
set_option linter.unusedVariables false
namespace Vdd

set_option maxRecDepth 100000 in
set_option maxHeartbeats 1000000 in
theorem law (k0 a0 b0 : Int) (w : World) (wfk : (Lit.int .i64 k0).wf = true) (wfa : (Lit.int .i64 a0).wf = true) (wfb : (Lit.int .i64 b0).wf = true) (gf : Forms w) :
    Calls Tryd.prog 5 #[.agg #[.int .i64 k0, .int .i64 a0, .int .i64 b0]] w fun e w' => e = .returned (.bool true) ∧ Below w.heap.size w w' := by
  have HB := Lib.hid (bx_b w (.cells #[.int .i64 k0, .int .i64 a0, .int .i64 b0] 46))
  have HX := Lib.hid (boxes_of w #[.int .i64 k0, .int .i64 a0, .int .i64 b0] 46)
  have HF := Lib.hid (gf.step HB.out)
  clear gf
  go_enter Tryd.func5, Tryd.ntmps5
  go_wp2_with fail
  generalize w.alloc (.cells #[.int .i64 k0, .int .i64 a0, .int .i64 b0] 46) = w1 at *
  refine (toDeed_any k0 a0 b0 _).mono ?_
  rintro e w2 ⟨rfl, hb⟩
  replace HX := Lib.hid (HX.out.step hb)
  replace HF := Lib.hid (HF.out.step hb)
  replace HB := Lib.hid (HB.out.trans (hb.mono HB.out.size))
  clear hb
  go_wp2_with fail
  refine (specVd_any k0 a0 b0 _).mono ?_
  obtain ⟨B, hB⟩ : ∃ B, tell (DeedOk k0 a0 b0) = B := ⟨_, rfl⟩
  rw [hB]
  have HBB := Lib.hid hB
  clear hB
  rintro e w3 ⟨rfl, hb⟩
  replace HX := Lib.hid (HX.out.step hb)
  replace HF := Lib.hid (HF.out.step hb)
  replace HB := Lib.hid (HB.out.trans (hb.mono HB.out.size))
  clear hb
  obtain ⟨x0, x1, x2⟩ := HX.out.d3
  have xl := HX.out.lt
  go_wp2_with fail
  refine (toDeed_any k0 a0 b0 _).mono ?_
  rintro e w4 ⟨rfl, hb⟩
  replace HF := Lib.hid (HF.out.step hb)
  replace HB := Lib.hid (HB.out.trans (hb.mono HB.out.size))
  clear hb x0 x1 x2 xl HX
  go_wp2_with fail
  refine (implVd_any k0 a0 b0 _ HF.out).mono ?_
  rw [HBB.out]
  rintro e w5 ⟨rfl, hb⟩
  replace HB := Lib.hid (HB.out.trans (hb.mono HB.out.size))
  clear hb
  cases B <;> (go_wp2_with fail; go_ret; exact ⟨rfl, HB.out⟩)

theorem door_met (os : Os) (args : Array Value) : laidMetH Tryd.prog Rows.fnExactValidDeedRow.laid ((World.doorLaid Tryd.prog 62 os).forCall (fun _ _ => 0) ⟨#[], args, []⟩).memory :=
  laidMetH_of_parts3 (fuel := 8) (laidMet_of_run' 8 (by kernel_rfl) (by kernel_rfl)) (by kernel_rfl) (by kernel_rfl)

set_option maxRecDepth 100000 in
set_option maxHeartbeats 100000000 in
theorem lifted (os : Os) (started : os.Started) (H : Type) (enc : TypeId × Value → H) :
    ReturnsInHanded {} Tryd.checked os 5 .any (fun w args => (Rows.fnExactValidDeedSpec.pre enc Tryd.prog Tryd.f5 [] false w args ∧ laidMetH Tryd.prog Rows.fnExactValidDeedRow.laid w) ∧ sizedMet enc Tryd.prog Tryd.f5 (OpenSpec.ofChange Rows.fnExactValidDeedSpec) false w args)
      (Rows.fnExactValidDeedSpec.post enc Tryd.prog Tryd.f5 false true false false) := by
  refine returnsInHanded_of_change_and (C := Tryd.checked) (X := fun w _ => laidMetH Tryd.prog Rows.fnExactValidDeedRow.laid w) (fun _ _ _ hh h => h.of_heap hh) CardP.own started (by kernel_rfl) Tryd.func5
    (ChangeSpec.witness_shaped (enc := enc) (C := Tryd.checked) (os := os) (X := fun w _ => laidMetH Tryd.prog Rows.fnExactValidDeedRow.laid w) false (World.doorLaid Tryd.prog 62 os) #[.agg #[.int .i64 0, .int .i64 0, .int .i64 0]] 8 rfl (World.shaped_of_RefB (by kernel_rfl) (by kernel_rfl)) (by kernel_rfl) (by kernel_rfl) (by kernel_rfl) (door_met os _)) ?_
  intro W base args ds gs before hval0 hW _ _ hL _
  have hval : ∀ (j : Nat) t v, Tryd.f5.params[j]? = some t → args[j]? = some v → Value.okWide Tryd.prog W .any base t v := hval0
  have hW' := hW
  obtain ⟨p, q, hA0, hV, rfl, hfz, hnd⟩ := hW
  have hA : DataW.TrodAll enc Tryd.prog W 0 (fun _ => true) true Tryd.f5.params.toList args.toList ds p := hA0
  rw [Tryd.params5] at hA hval
  obtain ⟨v0, vs0, d0, ds0, p0, q0, hargs, rfl, rfl, h0, r0⟩ := trodAll_cons hA
  obtain ⟨rfl, rfl, rfl⟩ := trodAll_nil r0
  obtain rfl : args = #[v0] := by cases args; simp_all
  obtain ⟨g1, rfl⟩ := trodVars_1 hV
  have k0 := h0
  have lt0 : ∀ x ∈ p0, x.block < W.heap.size := by obtain ⟨m, hm⟩ := k0; exact DataW.trod_lt m _ _ _ hm
  obtain ⟨hh0, kk0, ll0, rfl, wf0, wg0, wh0⟩ := open_deed (hval 0 46 v0 rfl rfl) h0
  clear hA0 hval0
  refine (law hh0 kk0 ll0 W wf0 wg0 wh0 (forms_of hL)).mono fun e W' ⟨he, bel⟩ => ?_
  subst he
  exact ⟨_, rfl, _, _, _, [], _, _, hW', trodAll_mk1 (shut_bool Tryd.underlying4 _), (trodAll_cons_mk (Below.trod CardP.laidOut (by kernel_rfl) (of_decide_eq_true (by kernel_rfl)) k0 bel lt0) trodAll_mk0), Below.trodVars CardP.laidOut bel (by kernel_rfl) hV, bel.frame _, fun h => by cases h⟩


end Vdd
end Go.Proofs.YthmjcmhaijiedaaDoor

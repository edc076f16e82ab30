/- 'laws.FnExactSchemeText': for all arguments the program's function gives what the model gives, and writes into nothing that it was given. Tied to the program's text: what the library's tables hold. No other condition. -/
import Derived.Test.YtedjildahjefkaaDoorLstA
import Derived.Test.YtedjildahjefkaaDoorSts
import Derived.Test.YtedjildahjefkaaDoorOpen
import Derived.Test.YtedjildahjefkaaDoorCpf
import Derived.LaidHandle
import Derived.LaidLaws
import Derived.LaidMore
namespace Go.Proofs.YtedjildahjefkaaDoor
open Go.ChangeShapes Go.WideShapes Go.ChangeAt Go.RowKit Go.Deep
set_option linter.unusedVariables false
namespace SchemeText

theorem law (h f l : Int) (ao : Option Addr) (yo : List Int) (co : Nat) (a : Option Addr) (z : List (List Int)) (c : Nat) (w : World) (hr : InS w ao yo a z) (hl : LenS yo z) (wf : (Lit.int .i64 h).wf = true) (wg : (Lit.int .i64 f).wf = true) (wh : (Lit.int .i64 l).wf = true) :
    Calls Tryd.prog 4 #[.agg #[.int .i64 h, .slice ao yo.length co, .int .i64 f, .int .i64 l, .slice a z.length c]] w fun e w' => e = .returned (.bool true) ∧ Below w.heap.size w w' :=
  law_of h f l ao yo co a z c (schTextV h f l yo z) w hr hl wf wg wh (fun _ _ _ _ W hR hS => specSt_any h f l _ yo _ _ z _ W hR hS.lens) (fun _ _ _ _ W hR hS => implSt_any h f l _ yo _ _ z _ W hR hS.lens)

theorem door_met (os : Os) (args : Array Value) : laidMetH Tryd.prog Rows.fnExactSchemeTextRow.laid ((World.doorLaid Tryd.prog 62 os).forCall (fun _ _ => 0) ⟨#[], args, []⟩).memory :=
  laidMetH_of_parts3 (fuel := 8) (laidMet_of_run' 8 (by kernel_rfl) (by kernel_rfl)) (by kernel_rfl) (by kernel_rfl)

set_option maxRecDepth 100000 in
set_option maxHeartbeats 100000000 in
theorem lifted (os : Os) (started : os.Started) (H : Type) (enc : TypeId × Value → H) :
    ReturnsInHanded {} Tryd.checked os 4 .any (fun w args => (Rows.fnExactSchemeTextSpec.pre enc Tryd.prog Tryd.f4 [] false w args ∧ laidMetH Tryd.prog Rows.fnExactSchemeTextRow.laid w) ∧ sizedMet enc Tryd.prog Tryd.f4 (OpenSpec.ofChange Rows.fnExactSchemeTextSpec) false w args)
      (Rows.fnExactSchemeTextSpec.post enc Tryd.prog Tryd.f4 false true false false) := by
  refine returnsInHanded_of_change_and (C := Tryd.checked) (X := fun w _ => laidMetH Tryd.prog Rows.fnExactSchemeTextRow.laid w) (fun _ _ _ hh h => h.of_heap hh) CardP.own started (by kernel_rfl) Tryd.func4
    (ChangeSpec.witness_shaped (enc := enc) (C := Tryd.checked) (os := os) (X := fun w _ => laidMetH Tryd.prog Rows.fnExactSchemeTextRow.laid w) false (World.doorLaid Tryd.prog 62 os) #[.agg #[.int .i64 0, .slice none 0 0, .int .i64 0, .int .i64 0, .slice none 0 0]] 8 rfl (World.shaped_of_RefB (by kernel_rfl) (by kernel_rfl)) (by kernel_rfl) (by kernel_rfl) (by kernel_rfl) (door_met os _)) ?_
  intro W base args ds gs before hval0 hW _ _ hL _
  have hval : ∀ (j : Nat) t v, Tryd.f4.params[j]? = some t → args[j]? = some v → Value.okWide Tryd.prog W .any base t v := hval0
  have hW' := hW
  obtain ⟨p, q, hA0, hV, rfl, hfz, hnd⟩ := hW
  have hA : DataW.TrodAll enc Tryd.prog W 0 (fun _ => true) true Tryd.f4.params.toList args.toList ds p := hA0
  rw [Tryd.params4] at hA hval
  obtain ⟨v0, vs0, d0, ds0, p0, q0, hargs, rfl, rfl, h0, r0⟩ := trodAll_cons hA
  obtain ⟨rfl, rfl, rfl⟩ := trodAll_nil r0
  obtain rfl : args = #[v0] := by cases args; simp_all
  obtain ⟨rfl, rfl⟩ := trodVars_none hV
  have k0 := h0
  have lt0 : ∀ x ∈ p0, x.block < W.heap.size := by obtain ⟨m, hm⟩ := k0; exact DataW.trod_lt m _ _ _ hm
  obtain ⟨hh0, ff0, kk0, ao0, yo0, co0, a0, z0, c0, rfl, rr0, ll0, wf0, wg0, wh0⟩ := open_sch (hval 0 33 v0 rfl rfl) h0
  clear hA0 hval0
  refine (law hh0 ff0 kk0 ao0 yo0 co0 a0 z0 c0 W rr0 ll0 wf0 wg0 wh0).mono fun e W' ⟨he, bel⟩ => ?_
  subst he
  exact ⟨_, rfl, _, _, _, [], _, [], hW', trodAll_mk1 (shut_bool Tryd.underlying4 _), (trodAll_cons_mk (Below.trod CardP.laidOut (by kernel_rfl) (of_decide_eq_true (by kernel_rfl)) k0 bel lt0) trodAll_mk0), rfl, bel.frame _, fun h => by cases h⟩


end SchemeText
end Go.Proofs.YtedjildahjefkaaDoor

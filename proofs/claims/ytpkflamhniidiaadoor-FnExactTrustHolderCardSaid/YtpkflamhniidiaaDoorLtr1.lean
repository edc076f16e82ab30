/- 'laws.FnExactTrustHolder': for all arguments the program's function gives what the model gives, and writes into nothing that it was given. Tied to the program's text: what the library's tables hold. No other condition. -/
import Derived.Test.YtpkflamhniidiaaDoorLtrA
import Derived.Test.YtpkflamhniidiaaDoorMinF
import Derived.Test.YtpkflamhniidiaaDoorOpen
import Derived.Test.YtpkflamhniidiaaDoorCp
import Derived.LaidHandle
import Derived.LaidLaws
import Derived.LaidMore
namespace Go.Proofs.YtpkflamhniidiaaDoor
open Go.ChangeShapes Go.WideShapes Go.ChangeAt Go.RowKit Go.Deep
set_option linter.unusedVariables false
namespace LTr

theorem law (h : Int) (a : Option Addr) (zss : List (List Int)) (c : Nat) (k : Int) (w : World) (hr : Rows2 w a zss) (hl : Lens zss) (wf : (Lit.int .i64 h).wf = true) (wf1 : (Lit.int .i64 k).wf = true) :
    Calls Tryd.prog 12 #[.agg #[.int .i64 h, .slice a zss.length c], .int .i64 k] w fun e w' => e = .returned (.bool true) ∧ Below w.heap.size w w' :=
  law_of h a zss c k (minOf true h zss k).h (minOf true h zss k).zss (minOf true h zss k).code w hr hl wf wf1 (fun b d W h1 h2 => (specTr_any h b zss d k W h1 h2 wf1).mono fun _ _ h => h.x) (fun b d W h1 h2 => (implTr_any h b zss d k W h1 h2 wf1).mono fun _ _ h => h.y) (min_small true h zss k)

theorem door_met (os : Os) (args : Array Value) : laidMetH Tryd.prog Rows.fnExactTrustHolderRow.laid ((World.doorLaid Tryd.prog 62 os).forCall (fun _ _ => 0) ⟨#[], args, []⟩).memory :=
  laidMetH_of_parts3 (fuel := 8) (laidMet_of_run' 8 (by kernel_rfl) (by kernel_rfl)) (by kernel_rfl) (by kernel_rfl)

set_option maxRecDepth 100000 in
set_option maxHeartbeats 100000000 in
theorem lifted (os : Os) (started : os.Started) (H : Type) (enc : TypeId × Value → H) :
    ReturnsInHanded {} Tryd.checked os 12 .any (fun w args => (Rows.fnExactTrustHolderSpec.pre enc Tryd.prog Tryd.f12 [] false w args ∧ laidMetH Tryd.prog Rows.fnExactTrustHolderRow.laid w) ∧ sizedMet enc Tryd.prog Tryd.f12 (OpenSpec.ofChange Rows.fnExactTrustHolderSpec) false w args)
      (Rows.fnExactTrustHolderSpec.post enc Tryd.prog Tryd.f12 false true false false) := by
  refine returnsInHanded_of_change_and (C := Tryd.checked) (X := fun w _ => laidMetH Tryd.prog Rows.fnExactTrustHolderRow.laid w) (fun _ _ _ hh h => h.of_heap hh) CardP.own started (by kernel_rfl) Tryd.func12
    (ChangeSpec.witness_shaped (enc := enc) (C := Tryd.checked) (os := os) (X := fun w _ => laidMetH Tryd.prog Rows.fnExactTrustHolderRow.laid w) false (World.doorLaid Tryd.prog 62 os) #[.agg #[.int .i64 0, .slice none 0 0], .int .i64 0] 8 rfl (World.shaped_of_RefB (by kernel_rfl) (by kernel_rfl)) (by kernel_rfl) (by kernel_rfl) (by kernel_rfl) (door_met os _)) ?_
  intro W base args ds gs before hval0 hW _ _ hL _
  have hval : ∀ (j : Nat) t v, Tryd.f12.params[j]? = some t → args[j]? = some v → Value.okWide Tryd.prog W .any base t v := hval0
  have hW' := hW
  obtain ⟨p, q, hA0, hV, rfl, hfz, hnd⟩ := hW
  have hA : DataW.TrodAll enc Tryd.prog W 0 (fun _ => true) true Tryd.f12.params.toList args.toList ds p := hA0
  rw [Tryd.params12] at hA hval
  obtain ⟨v0, vs0, d0, ds0, p0, q0, hargs, rfl, rfl, h0, r0⟩ := trodAll_cons hA
  obtain ⟨v1, vs1, d1, ds1, p1, q1, rfl, rfl, rfl, h1, r1⟩ := trodAll_cons r0
  obtain ⟨rfl, rfl, rfl⟩ := trodAll_nil r1
  obtain rfl : args = #[v0, v1] := by cases args; simp_all
  obtain ⟨rfl, rfl⟩ := trodVars_none hV
  have k0 := h0
  have lt0 : ∀ x ∈ p0, x.block < W.heap.size := by obtain ⟨m, hm⟩ := k0; exact DataW.trod_lt m _ _ _ hm
  obtain ⟨hh0, a0, z0, c0, rfl, rr0, ll0, wf0⟩ := open_fam (hval 0 24 v0 rfl rfl) h0
  obtain ⟨x1, rfl, rfl, rfl, w1⟩ := open_int Tryd.underlying2 (hval 1 2 v1 rfl rfl) h1
  clear hA0 hval0
  refine (law hh0 a0 z0 c0 x1 W rr0 ll0 wf0 w1).mono fun e W' ⟨he, bel⟩ => ?_
  subst he
  exact ⟨_, rfl, _, _, _, [], _, [], hW', trodAll_mk1 (shut_bool Tryd.underlying4 _), (trodAll_cons_mk (Below.trod CardP.laidOut (by kernel_rfl) (of_decide_eq_true (by kernel_rfl)) k0 bel lt0) (trodAll_cons_mk (shut_int Tryd.underlying2 w1) trodAll_mk0)), rfl, bel.frame _, fun h => by cases h⟩


end LTr
end Go.Proofs.YtpkflamhniidiaaDoor

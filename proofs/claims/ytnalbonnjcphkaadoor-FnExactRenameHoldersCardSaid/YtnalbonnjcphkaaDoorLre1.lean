/- 'laws.FnExactRenameHolders': for all arguments the program's function gives what the model gives, and writes into nothing that it was given. Tied to the program's text: what the library's tables hold. No other condition. -/
import Derived.Test.YtnalbonnjcphkaaDoorLreA
import Derived.Test.YtnalbonnjcphkaaDoorRenF
import Derived.Test.YtnalbonnjcphkaaDoorOpen
import Derived.Test.YtnalbonnjcphkaaDoorCp
import Derived.LaidHandle
import Derived.LaidLaws
import Derived.LaidMore
namespace Go.Proofs.YtnalbonnjcphkaaDoor
open Go.ChangeShapes Go.WideShapes Go.ChangeAt Go.RowKit Go.Deep
set_option linter.unusedVariables false
namespace Rename

theorem law (h0 : Int) (a0 : Option Addr) (z0 : List (List Int)) (c0 : Nat) (a1 : Option Addr) (z1 : List Int) (c1 : Nat) (w : World) (hr0 : Rows2 w a0 z0) (hl0 : Lens z0) (wfh0 : (Lit.int .i64 h0).wf = true) (hr1 : Ints w a1 z1) (hl1 : z1.length ≤ 9223372036854775807) :
    Calls Tryd.prog 5 #[.agg #[.int .i64 h0, .slice a0 z0.length c0], .slice a1 z1.length c1] w fun e w' => e = .returned (.bool true) ∧ Below w.heap.size w w' :=
  RenameHolders.law_of h0 a0 z0 c0 a1 z1 c1 (renOf h0 z0 z1).h (renOf h0 z0 z1).zss (renOf h0 z0 z1).code w hr0 hl0 wfh0 hr1 hl1
    (fun _ _ _ _ W r0 s0 r1 s1 => (specRe_any h0 _ z0 _ _ z1 _ W r0 s0 r1 s1).mono fun _ _ k => k.x)
    (fun _ _ _ _ W r0 s0 r1 s1 => (implRe_any h0 _ z0 _ _ z1 _ W r0 s0 r1 s1).mono fun _ _ k => k.y)
    (ren_small _ _ _)

theorem door_met (os : Os) (args : Array Value) : laidMetH Tryd.prog Rows.fnExactRenameHoldersRow.laid ((World.doorLaid Tryd.prog 62 os).forCall (fun _ _ => 0) ⟨#[], args, []⟩).memory :=
  laidMetH_of_parts3 (fuel := 8) (laidMet_of_run' 8 (by kernel_rfl) (by kernel_rfl)) (by kernel_rfl) (by kernel_rfl)

set_option maxRecDepth 100000 in
set_option maxHeartbeats 100000000 in
theorem lifted (os : Os) (started : os.Started) (H : Type) (enc : TypeId × Value → H) :
    ReturnsInHanded {} Tryd.checked os 5 .any (fun w args => (Rows.fnExactRenameHoldersSpec.pre enc Tryd.prog Tryd.f5 [] false w args ∧ laidMetH Tryd.prog Rows.fnExactRenameHoldersRow.laid w) ∧ sizedMet enc Tryd.prog Tryd.f5 (OpenSpec.ofChange Rows.fnExactRenameHoldersSpec) false w args)
      (Rows.fnExactRenameHoldersSpec.post enc Tryd.prog Tryd.f5 false true false false) := by
  refine returnsInHanded_of_change_and (C := Tryd.checked) (X := fun w _ => laidMetH Tryd.prog Rows.fnExactRenameHoldersRow.laid w) (fun _ _ _ hh h => h.of_heap hh) CardP.own started (by kernel_rfl) Tryd.func5
    (ChangeSpec.witness_shaped (enc := enc) (C := Tryd.checked) (os := os) (X := fun w _ => laidMetH Tryd.prog Rows.fnExactRenameHoldersRow.laid w) false (World.doorLaid Tryd.prog 62 os) #[.agg #[.int .i64 0, .slice none 0 0], .slice none 0 0] 8 rfl (World.shaped_of_RefB (by kernel_rfl) (by kernel_rfl)) (by kernel_rfl) (by kernel_rfl) (by kernel_rfl) (door_met os _)) ?_
  intro W base args ds gs before hval0 hW _ _ hL _
  have hval : ∀ (j : Nat) t v, Tryd.f5.params[j]? = some t → args[j]? = some v → Value.okWide Tryd.prog W .any base t v := hval0
  have hW' := hW
  obtain ⟨p, q, hA0, hV, rfl, hfz, hnd⟩ := hW
  have hA : DataW.TrodAll enc Tryd.prog W 0 (fun _ => true) true Tryd.f5.params.toList args.toList ds p := hA0
  rw [Tryd.params5] at hA hval
  obtain ⟨v0, vs0, d0, ds0, p0, q0, hargs, rfl, rfl, h0, r0⟩ := trodAll_cons hA
  obtain ⟨v1, vs1, d1, ds1, p1, q1, rfl, rfl, rfl, h1, r1⟩ := trodAll_cons r0
  obtain ⟨rfl, rfl, rfl⟩ := trodAll_nil r1
  obtain rfl : args = #[v0, v1] := by cases args; simp_all
  obtain ⟨rfl, rfl⟩ := trodVars_none hV
  have k0 := h0
  have lt0 : ∀ x ∈ p0, x.block < W.heap.size := by obtain ⟨m, hm⟩ := k0; exact DataW.trod_lt m _ _ _ hm
  obtain ⟨hh0, a0, z0, c0, rfl, rr0, ll0, wf0⟩ := open_fam (hval 0 24 v0 rfl rfl) h0
  have k1 := h1
  have lt1 : ∀ x ∈ p1, x.block < W.heap.size := by obtain ⟨m, hm⟩ := k1; exact DataW.trod_lt m _ _ _ hm
  obtain ⟨a1, len1, c1, rfl⟩ := okWide_slice Tryd.underlying33 (hval 1 33 v1 rfl rfl)
  obtain ⟨fuel1, hf1⟩ := h1
  obtain ⟨z1, rfl, rr1, ll1⟩ := open_ints1 (by simpa [Value.cells] using hf1)
  clear hA0 hval0
  refine (law hh0 a0 z0 c0 a1 z1 c1 W rr0 ll0 wf0 rr1 ll1).mono fun e W' ⟨he, bel⟩ => ?_
  subst he
  exact ⟨_, rfl, _, _, _, [], _, [], hW', trodAll_mk1 (shut_bool Tryd.underlying4 _), (trodAll_cons_mk (Below.trod CardP.laidOut (by kernel_rfl) (of_decide_eq_true (by kernel_rfl)) k0 bel lt0) (trodAll_cons_mk (Below.trod CardP.laidOut (by kernel_rfl) (of_decide_eq_true (by kernel_rfl)) k1 bel lt1) trodAll_mk0)), rfl, bel.frame _, fun h => by cases h⟩


end Rename
end Go.Proofs.YtnalbonnjcphkaaDoor

/- 'laws.FnExactInverseOf': for every argument, valid or not, the program's function answers what the model's answers, writes into nothing that it was given, and what it answers owns its memory. No condition. -/
import Derived.Test.YtekhjoenejgmaaaLinvA
namespace Go.Proofs.Ytekhjoenejgmaaa
open Go.ChangeShapes Go.WideShapes Go.ChangeAt Go.RowKit Go.Deep
set_option linter.unusedVariables false
namespace Inv

theorem law (h0 l0 : Int) (a0 : Option Addr) (z0 : List (List Int)) (c0 : Nat) (w : World) (hr0 : Rows2 w a0 z0) (hl0 : Lens z0) (wfh0 : (Lit.int .i64 h0).wf = true) (wfl0 : (Lit.int .i64 l0).wf = true) :
    Calls Try.prog 8 #[.agg #[.int .i64 h0, .int .i64 l0, .slice a0 z0.length c0]] w fun e w' => e = .returned (.bool true) ∧ Below w.heap.size w w' :=
  law_of h0 l0 a0 z0 c0 (inSel h0 l0 z0 0 h0) (inSel h0 l0 z0 0 l0) (inSel h0 l0 z0 [] (invZ h0 z0.length z0)) (inCode h0 l0 z0) w hr0 hl0 wfh0 wfl0  (fun _ _ W r0 s0 => specIn_any h0 l0 _ z0 _ W r0 s0.lens) (fun _ _ W r0 s0 => implIn_any h0 l0 _ z0 _ W r0 s0.lens) (inv_small _ _ _)

theorem own : ownKnob Try.prog.godebug = none := by kernel_rfl
theorem laidOut : laidOutB Try.prog = true := by kernel_rfl

set_option maxRecDepth 100000 in
theorem lifted (os : Os) (started : os.Started) (H : Type) (enc : TypeId × Value → H) :
    ReturnsInHanded {} Try.checked os 8 .any (Rows.fnExactInverseOfSpec.pre6 enc Try.prog Try.f8 Rows.fnExactInverseOfRow.domain false) (Rows.fnExactInverseOfSpec.post enc Try.prog Try.f8 false true false false) := by
  refine returnsInHanded_of_change (C := Try.checked) own started (by kernel_rfl) Try.func8
    (ChangeSpec.witness6 (enc := enc) (C := Try.checked) false ⟨#[], #[.agg #[.int .i64 0, .int .i64 0, .slice none 0 0]], []⟩ 8 (by kernel_rfl) (by kernel_rfl) (by kernel_rfl) (by kernel_rfl)) ?_
  intro W base args ds gs before hval0 hW hcnd _
  have hval : ∀ (j : Nat) t v, Try.f8.params[j]? = some t → args[j]? = some v → Value.okWide Try.prog W .any base t v := hval0
  have hW' := hW
  obtain ⟨p, q, hA0, hV, rfl, hfz, hnd⟩ := hW
  have hA : DataW.TrodAll enc Try.prog W 0 (fun _ => true) true Try.f8.params.toList args.toList ds p := hA0
  rw [Try.params8] at hA hval
  obtain ⟨v0, vs0, d0, ds0, p0, q0, hargs, rfl, rfl, h0, r0⟩ := trodAll_cons hA
  obtain ⟨rfl, rfl, rfl⟩ := trodAll_nil r0
  obtain rfl : args = #[v0] := by cases args; simp_all
  obtain ⟨rfl, rfl⟩ := trodVars_none hV
  have k0 := h0
  have lt0 : ∀ x ∈ p0, x.block < W.heap.size := by obtain ⟨m, hm⟩ := k0; exact DataW.trod_lt m _ _ _ hm
  obtain ⟨hh0, kk0, a0, z0, c0, rfl, rr0, ll0, wf0, wg0⟩ := open_mat (hval 0 25 v0 rfl rfl) h0
  clear hA0 hval0
  refine (law hh0 kk0 a0 z0 c0 W rr0 ll0 wf0 wg0).mono fun e W' ⟨he, bel⟩ => ?_
  subst he
  exact ⟨_, rfl, _, _, _, [], _, [], hW', trodAll_mk1 (shut_bool Try.underlying4 _), (trodAll_cons_mk (Below.trod laidOut (by kernel_rfl) (of_decide_eq_true (by kernel_rfl)) k0 bel lt0) trodAll_mk0), rfl, bel.frame _, fun h => by cases h⟩

theorem over : Rows.fnExactInverseOfRow.holds Try.pinned (OpenSpec.ofChange Rows.fnExactInverseOfSpec) :=
  OpenClaim.holds_of_wide 8 Try.f8 rfl rfl rfl rfl rfl rfl rfl ⟨rfl, rfl, rfl, rfl, rfl⟩ rfl rfl rfl rfl rfl (by kernel_rfl) Try.func8 (by kernel_rfl)
    (of_decide_eq_true (by kernel_rfl)) (by unfold Func.isWrapper; first | (rw [if_pos (by decide +kernel)]; kernel_rfl) | (rw [if_neg (by decide +kernel)]; exact ⟨rfl, rfl⟩))
    (fun os started H enc _ => lifted os started H enc)

theorem proved : Rows.FnExactInverseOfSaid := over

end Inv
end Go.Proofs.Ytekhjoenejgmaaa

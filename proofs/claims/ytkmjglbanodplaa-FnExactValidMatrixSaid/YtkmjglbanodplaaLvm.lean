/- 'laws.FnExactValidMatrix': for every argument, valid or not, the program's function answers what the model's answers, and writes into nothing that it was given. No condition. -/
import Derived.Test.YtkmjglbanodplaaLvmA
namespace Go.Proofs.Ytkmjglbanodplaa
open Go.ChangeShapes Go.WideShapes Go.ChangeAt Go.RowKit Go.Deep
set_option linter.unusedVariables false
namespace ValidMatrix

theorem law (h l : Int) (a : Option Addr) (z : List (List Int)) (c : Nat) (w : World) (hr : Rows2 w a z) (hl : Lens z) (wf : (Lit.int .i64 h).wf = true) (wg : (Lit.int .i64 l).wf = true) :
    Calls Try.prog 8 #[.agg #[.int .i64 h, .int .i64 l, .slice a z.length c]] w fun e w' => e = .returned (.bool true) ∧ Below w.heap.size w w' :=
  law_of h l a z c (tell (MatOk h l z)) w hr hl wf wg (fun _ _ W hR hS => specVm_any h l _ z _ W hR hS.lens) (fun _ _ W hR hS => implVm_any h l _ z _ W hR hS.lens)

theorem own : ownKnob Try.prog.godebug = none := by kernel_rfl
theorem laidOut : laidOutB Try.prog = true := by kernel_rfl

set_option maxRecDepth 100000 in
theorem lifted (os : Os) (started : os.Started) (H : Type) (enc : TypeId × Value → H) :
    ReturnsInHanded {} Try.checked os 8 .any (Rows.fnExactValidMatrixSpec.pre6 enc Try.prog Try.f8 Rows.fnExactValidMatrixRow.domain false) (Rows.fnExactValidMatrixSpec.post enc Try.prog Try.f8 false true false false) := by
  refine returnsInHanded_of_change (C := Try.checked) own started (by kernel_rfl) Try.func8
    (ChangeSpec.witness6 (enc := enc) (C := Try.checked) false ⟨#[], #[.agg #[.int .i64 0, .int .i64 0, .slice none 0 0]], []⟩ 8 (by kernel_rfl) (by kernel_rfl) (by kernel_rfl) (by kernel_rfl)) ?_
  intro W base args ds gs before hval0 hW hcnd _
  have hval : ∀ (j : Nat) t v, Try.f8.params[j]? = some t → args[j]? = some v → Value.okWide Try.prog W .any base t v := hval0
  have hW' := hW
  obtain ⟨p, q, hA0, hV, rfl, hfz, hnd⟩ := hW
  have hA : DataW.TrodAll enc Try.prog W 0 (fun _ => true) true Try.f8.params.toList args.toList ds p := hA0
  rw [Try.params8] at hA hval
  obtain ⟨v0, vs0, d0, ds0, p0, q0, hargs, rfl, rfl, h0, r0⟩ := trodAll_cons hA
  obtain ⟨rfl, rfl, rfl⟩ := trodAll_nil r0
  obtain rfl : args = #[v0] := by cases args; simp_all
  obtain ⟨rfl, rfl⟩ := trodVars_none hV
  have k0 := h0
  have lt0 : ∀ x ∈ p0, x.block < W.heap.size := by obtain ⟨m, hm⟩ := k0; exact DataW.trod_lt m _ _ _ hm
  obtain ⟨hh0, kk0, a0, z0, c0, rfl, rr0, ll0, wf0, wg0⟩ := open_mat (hval 0 30 v0 rfl rfl) h0
  clear hA0 hval0
  refine (law hh0 kk0 a0 z0 c0 W rr0 ll0 wf0 wg0).mono fun e W' ⟨he, bel⟩ => ?_
  subst he
  exact ⟨_, rfl, _, _, _, [], _, [], hW', trodAll_mk1 (shut_bool Try.underlying4 _), (trodAll_cons_mk (Below.trod laidOut (by kernel_rfl) (of_decide_eq_true (by kernel_rfl)) k0 bel lt0) trodAll_mk0), rfl, bel.frame _, fun h => by cases h⟩

theorem over : Rows.fnExactValidMatrixRow.holds Try.pinned (OpenSpec.ofChange Rows.fnExactValidMatrixSpec) :=
  OpenClaim.holds_of_wide 8 Try.f8 rfl rfl rfl rfl rfl rfl rfl ⟨rfl, rfl, rfl, rfl, rfl⟩ rfl rfl rfl rfl rfl (by kernel_rfl) Try.func8 (by kernel_rfl)
    (of_decide_eq_true (by kernel_rfl)) (by unfold Func.isWrapper; first | (rw [if_pos (by decide +kernel)]; kernel_rfl) | (rw [if_neg (by decide +kernel)]; exact ⟨rfl, rfl⟩))
    (fun os started H enc _ => lifted os started H enc)

theorem proved : Rows.FnExactValidMatrixSaid := over

end ValidMatrix
end Go.Proofs.Ytkmjglbanodplaa

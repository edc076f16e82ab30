/- 'laws.FnExactSharesOf': for every argument, valid or not, the program's function answers what the model's answers, writes into nothing that it was given, and what it answers owns its memory. No condition. -/
import Derived.Test.YtekhjoenejgmaaaLshA
namespace Go.Proofs.Ytekhjoenejgmaaa
open Go.ChangeShapes Go.WideShapes Go.ChangeAt Go.RowKit Go.Deep
set_option linter.unusedVariables false
namespace Shr

theorem law (h0 f0 l0 : Int) (ao0 : Option Addr) (yo0 : List Int) (co0 : Nat) (a0 : Option Addr) (z0 : List (List Int)) (c0 : Nat) (x1 : Int) (a2 : Option Addr) (z2 : List Int) (c2 : Nat) (w : World) (hr0 : InS w ao0 yo0 a0 z0) (hl0 : LenS yo0 z0) (wfh0 : (Lit.int .i64 h0).wf = true) (wff0 : (Lit.int .i64 f0).wf = true) (wfl0 : (Lit.int .i64 l0).wf = true) (wf1 : (Lit.int .i64 x1).wf = true) (hr2 : Ints w a2 z2) (hl2 : z2.length ≤ 9223372036854775807) :
    Calls Try.prog 3 #[.agg #[.int .i64 h0, .slice ao0 yo0.length co0, .int .i64 f0, .int .i64 l0, .slice a0 z0.length c0], .int .i64 x1, .slice a2 z2.length c2] w fun e w' => e = .returned (.bool true) ∧ Below w.heap.size w w' :=
  law_of h0 f0 l0 ao0 yo0 co0 a0 z0 c0 x1 a2 z2 c2 (shZs h0 f0 l0 yo0 z0 x1 z2) (shCode h0 f0 l0 yo0 z0 x1 z2) w hr0 hl0 wfh0 wff0 wfl0 wf1 hr2 hl2  (fun _ _ _ _ _ _ W r0 s0 r2 s2 => specSh_any h0 f0 l0 _ yo0 _ _ z0 _ x1 _ z2 _ W r0 s0.lens r2 (by omega)) (fun _ _ _ _ _ _ W r0 s0 r2 s2 => implSh_any h0 f0 l0 _ yo0 _ _ z0 _ x1 _ z2 _ W r0 s0.lens r2 (by omega)) (shZs_len _ _ _ _ _ _ _)

theorem own : ownKnob Try.prog.godebug = none := by kernel_rfl
theorem laidOut : laidOutB Try.prog = true := by kernel_rfl

set_option maxRecDepth 100000 in
theorem lifted (os : Os) (started : os.Started) (H : Type) (enc : TypeId × Value → H) :
    ReturnsInHanded {} Try.checked os 3 .any (Rows.fnExactSharesOfSpec.pre6 enc Try.prog Try.f3 Rows.fnExactSharesOfRow.domain false) (Rows.fnExactSharesOfSpec.post enc Try.prog Try.f3 false true false false) := by
  refine returnsInHanded_of_change (C := Try.checked) own started (by kernel_rfl) Try.func3
    (ChangeSpec.witness6 (enc := enc) (C := Try.checked) false ⟨#[], #[.agg #[.int .i64 0, .slice none 0 0, .int .i64 0, .int .i64 0, .slice none 0 0], .int .i64 0, .slice none 0 0], []⟩ 8 (by kernel_rfl) (by kernel_rfl) (by kernel_rfl) (by kernel_rfl)) ?_
  intro W base args ds gs before hval0 hW hcnd _
  have hval : ∀ (j : Nat) t v, Try.f3.params[j]? = some t → args[j]? = some v → Value.okWide Try.prog W .any base t v := hval0
  have hW' := hW
  obtain ⟨p, q, hA0, hV, rfl, hfz, hnd⟩ := hW
  have hA : DataW.TrodAll enc Try.prog W 0 (fun _ => true) true Try.f3.params.toList args.toList ds p := hA0
  rw [Try.params3] at hA hval
  obtain ⟨v0, vs0, d0, ds0, p0, q0, hargs, rfl, rfl, h0, r0⟩ := trodAll_cons hA
  obtain ⟨v1, vs1, d1, ds1, p1, q1, rfl, rfl, rfl, h1, r1⟩ := trodAll_cons r0
  obtain ⟨v2, vs2, d2, ds2, p2, q2, rfl, rfl, rfl, h2, r2⟩ := trodAll_cons r1
  obtain ⟨rfl, rfl, rfl⟩ := trodAll_nil r2
  obtain rfl : args = #[v0, v1, v2] := by cases args; simp_all
  obtain ⟨rfl, rfl⟩ := trodVars_none hV
  have k0 := h0
  have lt0 : ∀ x ∈ p0, x.block < W.heap.size := by obtain ⟨m, hm⟩ := k0; exact DataW.trod_lt m _ _ _ hm
  obtain ⟨hh0, ff0, kk0, ao0, yo0, co0, a0, z0, c0, rfl, rr0, ll0, wf0, wg0, wh0⟩ := open_sch (hval 0 27 v0 rfl rfl) h0
  obtain ⟨x1, rfl, rfl, rfl, w1⟩ := open_int Try.underlying2 (hval 1 2 v1 rfl rfl) h1
  have k2 := h2
  have lt2 : ∀ x ∈ p2, x.block < W.heap.size := by obtain ⟨m, hm⟩ := k2; exact DataW.trod_lt m _ _ _ hm
  obtain ⟨a2, len2, c2, rfl⟩ := okWide_slice Try.underlying22 (hval 2 22 v2 rfl rfl)
  obtain ⟨fuel2, hf2⟩ := h2
  obtain ⟨z2, rfl, rr2, ll2⟩ := open_ints1 (by simpa [Value.cells] using hf2)
  clear hA0 hval0
  refine (law hh0 ff0 kk0 ao0 yo0 co0 a0 z0 c0 x1 a2 z2 c2 W rr0 ll0 wf0 wg0 wh0 w1 rr2 ll2).mono fun e W' ⟨he, bel⟩ => ?_
  subst he
  exact ⟨_, rfl, _, _, _, [], _, [], hW', trodAll_mk1 (shut_bool Try.underlying4 _), (trodAll_cons_mk (Below.trod laidOut (by kernel_rfl) (of_decide_eq_true (by kernel_rfl)) k0 bel lt0) (trodAll_cons_mk (shut_int Try.underlying2 w1) (trodAll_cons_mk (Below.trod laidOut (by kernel_rfl) (of_decide_eq_true (by kernel_rfl)) k2 bel lt2) trodAll_mk0))), rfl, bel.frame _, fun h => by cases h⟩

theorem over : Rows.fnExactSharesOfRow.holds Try.pinned (OpenSpec.ofChange Rows.fnExactSharesOfSpec) :=
  OpenClaim.holds_of_wide 3 Try.f3 rfl rfl rfl rfl rfl rfl rfl ⟨rfl, rfl, rfl, rfl, rfl⟩ rfl rfl rfl rfl rfl (by kernel_rfl) Try.func3 (by kernel_rfl)
    (of_decide_eq_true (by kernel_rfl)) (by unfold Func.isWrapper; first | (rw [if_pos (by decide +kernel)]; kernel_rfl) | (rw [if_neg (by decide +kernel)]; exact ⟨rfl, rfl⟩))
    (fun os started H enc _ => lifted os started H enc)

theorem proved : Rows.FnExactSharesOfSaid := over

end Shr
end Go.Proofs.Ytekhjoenejgmaaa

/- 'laws.FnExactFamilyOf': for all holders and lists of groups, the program's function gives what the model gives, writes into nothing that it was given, and its answer owns its memory. No condition. -/
import Derived.Test.YtpkflamhniidiaaLgA
import Derived.Test.YtpkflamhniidiaaGofI
import Derived.Test.YtpkflamhniidiaaOpen
namespace Go.Proofs.Ytpkflamhniidiaa
open Go.ChangeShapes Go.WideShapes Go.ChangeAt Go.RowKit Go.Deep
set_option linter.unusedVariables false
namespace LFamOf

theorem small (h : Int) (zss : List (List Int)) : Small2 (gofOf h zss).zss := by
  unfold gofOf
  split
  · rename_i k
    have := (of_tell k).1
    exact famOf_small (by omega) _
  · exact lens_small (by simp [noFam]) (by simp [noFam])

theorem law (h : Int) (a : Option Addr) (zss : List (List Int)) (c : Nat) (w : World) (wf1 : (Lit.int .i64 h).wf = true) (hr : Rows2 w a zss) (hl : Lens zss) :
    Calls Try.prog 3 #[.int .i64 h, .slice a zss.length c] w fun e w' => e = .returned (.bool true) ∧ Below w.heap.size w w' :=
  law_of h a zss c (gofOf h zss).h (gofOf h zss).zss (gofOf h zss).code w hr hl (fun b d W h1 h2 => (specGof_any h b zss d W h1 h2).mono fun _ _ h => h.x) (fun b d W h1 h2 => (implGof_any h b zss d W h1 h2).mono fun _ _ h => h.y) (small h zss)

theorem own : ownKnob Try.prog.godebug = none := by kernel_rfl
theorem laidOut : laidOutB Try.prog = true := by kernel_rfl

set_option maxRecDepth 100000 in
theorem lifted (os : Os) (started : os.Started) (H : Type) (enc : TypeId × Value → H) :
    ReturnsInHanded {} Try.checked os 3 .any (Rows.fnExactFamilyOfSpec.pre6 enc Try.prog Try.f3 Rows.fnExactFamilyOfRow.domain false) (Rows.fnExactFamilyOfSpec.post enc Try.prog Try.f3 false true false false) := by
  refine returnsInHanded_of_change (C := Try.checked) own started (by kernel_rfl) Try.func3
    (ChangeSpec.witness6 (enc := enc) (C := Try.checked) false ⟨#[], #[.int .i64 0, .slice none 0 0], []⟩ 8 (by kernel_rfl) (by kernel_rfl) (by kernel_rfl) (by kernel_rfl)) ?_
  intro W base args ds gs before hval0 hW hcnd _
  have hval : ∀ (j : Nat) t v, Try.f3.params[j]? = some t → args[j]? = some v → Value.okWide Try.prog W .any base t v := hval0
  have hW' := hW
  obtain ⟨p, q, hA0, hV, rfl, hfz, hnd⟩ := hW
  have hA : DataW.TrodAll enc Try.prog W 0 (fun _ => true) true Try.f3.params.toList args.toList ds p := hA0
  rw [Try.params3] at hA hval
  obtain ⟨v0, vs0, d0, ds0, p0, q0, hargs, rfl, rfl, h0, r0⟩ := trodAll_cons hA
  obtain ⟨v1, vs1, d1, ds1, p1, q1, rfl, rfl, rfl, h1, r1⟩ := trodAll_cons r0
  obtain ⟨rfl, rfl, rfl⟩ := trodAll_nil r1
  obtain rfl : args = #[v0, v1] := by cases args; simp_all
  obtain ⟨rfl, rfl⟩ := trodVars_none hV
  obtain ⟨x0, rfl, rfl, rfl, w0⟩ := open_int Try.underlying2 (hval 0 2 v0 rfl rfl) h0
  have k1 := h1
  have lt1 : ∀ x ∈ p1, x.block < W.heap.size := by obtain ⟨m, hm⟩ := k1; exact DataW.trod_lt m _ _ _ hm
  obtain ⟨a1, len1, c1, rfl⟩ := okWide_slice Try.underlying22 (hval 1 22 v1 rfl rfl)
  obtain ⟨fuel1, hf1⟩ := h1
  obtain ⟨z1, rfl, rr1, ll1⟩ := open_rows2 (by simpa [Value.cells] using hf1)
  clear hA0 hval0
  refine (law x0 a1 z1 c1 W w0 rr1 ll1).mono fun e W' ⟨he, bel⟩ => ?_
  subst he
  exact ⟨_, rfl, _, _, _, [], _, [], hW', trodAll_mk1 (shut_bool Try.underlying4 _), (trodAll_cons_mk (shut_int Try.underlying2 w0) (trodAll_cons_mk (Below.trod laidOut (by kernel_rfl) (of_decide_eq_true (by kernel_rfl)) k1 bel lt1) trodAll_mk0)), rfl, bel.frame _, fun h => by cases h⟩

theorem over : Rows.fnExactFamilyOfRow.holds Try.pinned (OpenSpec.ofChange Rows.fnExactFamilyOfSpec) :=
  OpenClaim.holds_of_wide 3 Try.f3 rfl rfl rfl rfl rfl rfl rfl ⟨rfl, rfl, rfl, rfl, rfl⟩ rfl rfl rfl rfl rfl (by kernel_rfl) Try.func3 (by kernel_rfl)
    (of_decide_eq_true (by kernel_rfl)) (by unfold Func.isWrapper; first | (rw [if_pos (by decide +kernel)]; kernel_rfl) | (rw [if_neg (by decide +kernel)]; exact ⟨rfl, rfl⟩))
    (fun os started H enc _ => lifted os started H enc)

theorem proved : Rows.FnExactFamilyOfSaid := over
end LFamOf
end Go.Proofs.Ytpkflamhniidiaa

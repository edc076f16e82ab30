/- 'laws.FnExactGroupText': for every list of numbers, the program's GroupText gives the text that the model gives, and writes into nothing that it was given. No condition. -/
import Derived.Test.YtghkphpafgogjaaTextI
import Derived.Test.YtghkphpafgogjaaTo
import Derived.Test.YtghkphpafgogjaaSz
namespace Go.Proofs.Ytghkphpafgogjaa
open Go.ChangeShapes Go.WideShapes Go.ChangeAt Go.RowKit Go.Deep
set_option linter.unusedVariables false
namespace GroupText

set_option maxHeartbeats 400000 in
theorem law (a : Option Addr) (zs : List Int) (c : Nat) (w : World) (hr : Ints w a zs) (hl : zs.length ≤ 9223372036854775807) :
    Calls Try.prog 6 #[.slice a zs.length c] w fun e w' => e = .returned (.bool true) ∧ Below w.heap.size w w' := by
  by_cases hbig : 1048576 < zs.length
  · have t1 : (1048576 : Int) < (zs.length : Int) := by omega
    go_enter Try.func6, Try.ntmps6
    go_wp2_with fail
    go_ret
    exact ⟨rfl, Below.refl _ _⟩
  · have hsm : zs.length ≤ 1048576 := by omega
    clear hbig
    go_enter Try.func6, Try.ntmps6
    go_wp2_with fail
    refine (toInt64S_any a zs c w hr hsm).mono ?_
    rintro e w1 ⟨rfl, -, hrow, hb⟩
    have i1 := Ints.of_row hrow
    have B := hb
    have hr1 := hr.step hb
    clear hr hrow hb
    go_wp2_with fail
    refine (specText_any _ zs _ w1 i1 hl).mono ?_
    rintro e w2 ⟨rfl, hb⟩
    replace B := chain B hb
    have hr2 := hr1.step hb
    clear hr1 hb i1
    go_wp2_with fail
    refine (toInt64S_any a zs c w2 hr2 hsm).mono ?_
    rintro e w3 ⟨rfl, -, hrow, hb⟩
    have i3 := Ints.of_row hrow
    replace B := chain B hb
    have hr3 := hr2.step hb
    clear hr2 hrow hb
    go_wp2_with fail
    refine (implGroupText_any _ zs _ w3 i3 hl).mono ?_
    rintro e w4 ⟨rfl, hb⟩
    replace B := chain B hb
    have i4 := i3.step hb
    have hr4 := hr3.step hb
    clear hr3 hb i3
    go_wp2_with fail
    refine (toInt64S_any a zs c w4 hr4 hsm).mono ?_
    rintro e w5 ⟨rfl, -, hrow, hb⟩
    have i5 := Ints.of_row hrow
    replace B := chain B hb
    have i45 := i4.step hb
    clear hr4 hrow hb i4
    go_wp2_with fail
    refine (eqInt64S_same _ _ zs _ _ w5 i45 i5 hl).mono ?_
    rintro e w6 ⟨rfl, hq⟩
    replace B := chain B (quiet_below hq)
    clear hq i45 i5
    go_wp2_with fail
    go_ret
    exact ⟨rfl, B⟩

theorem own : ownKnob Try.prog.godebug = none := by kernel_rfl
theorem laidOut : laidOutB Try.prog = true := by kernel_rfl

set_option maxRecDepth 100000 in
theorem lifted (os : Os) (started : os.Started) (H : Type) (enc : TypeId × Value → H) :
    ReturnsInHanded {} Try.checked os 6 .any (Rows.fnExactGroupTextSpec.pre6 enc Try.prog Try.f6 Rows.fnExactGroupTextRow.domain false) (Rows.fnExactGroupTextSpec.post enc Try.prog Try.f6 false true false false) := by
  refine returnsInHanded_of_change (C := Try.checked) own started (by kernel_rfl) Try.func6
    (ChangeSpec.witness6 (enc := enc) (C := Try.checked) false ⟨#[], #[.slice none 0 0], []⟩ 8 (by kernel_rfl) (by kernel_rfl) (by kernel_rfl) (by kernel_rfl)) ?_
  intro W base args ds gs before hval0 hW hcnd _
  have hval : ∀ (j : Nat) t v, Try.f6.params[j]? = some t → args[j]? = some v → Value.okWide Try.prog W .any base t v := hval0
  have hW' := hW
  obtain ⟨p, q, hA0, hV, rfl, hfz, hnd⟩ := hW
  have hA : DataW.TrodAll enc Try.prog W 0 (fun _ => true) true Try.f6.params.toList args.toList ds p := hA0
  rw [Try.params6] at hA hval
  obtain ⟨v0, vs0, d0, ds0, p0, q0, hargs, rfl, rfl, h0, r0⟩ := trodAll_cons hA
  obtain ⟨rfl, rfl, rfl⟩ := trodAll_nil r0
  obtain rfl : args = #[v0] := by cases args; simp_all
  obtain ⟨rfl, rfl⟩ := trodVars_none hV
  have k0 := h0
  have lt0 : ∀ x ∈ p0, x.block < W.heap.size := by obtain ⟨m, hm⟩ := k0; exact DataW.trod_lt m _ _ _ hm
  obtain ⟨a0, len0, c0, rfl⟩ := okWide_slice Try.underlying34 (hval 0 34 v0 rfl rfl)
  obtain ⟨fuel0, hf0⟩ := h0
  obtain ⟨z0, rfl, rr0, ll0⟩ := open_ints1 (by simpa [Value.cells] using hf0)
  clear hA0 hval0
  refine (law a0 z0 c0 W rr0 ll0).mono fun e W' ⟨he, bel⟩ => ?_
  subst he
  exact ⟨_, rfl, _, _, _, [], _, [], hW', trodAll_mk1 (shut_bool Try.underlying4 _), (trodAll_cons_mk (Below.trod laidOut (by kernel_rfl) (of_decide_eq_true (by kernel_rfl)) k0 bel lt0) trodAll_mk0), rfl, bel.frame _, fun h => by cases h⟩

theorem over : Rows.fnExactGroupTextRow.holds Try.pinned (OpenSpec.ofChange Rows.fnExactGroupTextSpec) :=
  OpenClaim.holds_of_wide 6 Try.f6 rfl rfl rfl rfl rfl rfl rfl ⟨rfl, rfl, rfl, rfl, rfl⟩ rfl rfl rfl rfl rfl (by kernel_rfl) Try.func6 (by kernel_rfl)
    (of_decide_eq_true (by kernel_rfl)) (by unfold Func.isWrapper; first | (rw [if_pos (by decide +kernel)]; kernel_rfl) | (rw [if_neg (by decide +kernel)]; exact ⟨rfl, rfl⟩))
    (fun os started H enc _ => lifted os started H enc)

theorem proved : Rows.FnExactGroupTextSaid := over

end GroupText
end Go.Proofs.Ytghkphpafgogjaa

/- 'laws.FnExactValidFamily': for every family, valid or not, the program's ValidFamily answers what the model answers, and writes into nothing that it was given. No condition. -/
import Derived.Test.YtghkphpafgogjaaLeast
import Derived.Deep.RegionWith
namespace Go.Proofs.Ytghkphpafgogjaa
open Go.ChangeShapes Go.WideShapes Go.ChangeAt Go.RowKit Go.Deep
set_option linter.unusedVariables false
namespace ValidFamily

/-- An argument that is a family: its box at p, its rows. -/
structure ArgFam (w : World) (p : Nat) (h : Int) (a : Option Addr) (zss : List (List Int)) (c : Nat) : Prop where
  box : FamBox w p h a zss.length c
  rows : Rows2 w a zss
theorem ArgFam.next {w w' : World} {p : Nat} {h : Int} {a : Option Addr} {zss : List (List Int)} {c : Nat} (k : ArgFam w p h a zss c) (hb : Below w.heap.size w w') : ArgFam w' p h a zss c :=
  ⟨k.box.below hb (Nat.le_refl _), k.rows.below hb (Nat.le_refl _)⟩

set_option maxHeartbeats 1000000 in
theorem law (h : Int) (a : Option Addr) (zss : List (List Int)) (c : Nat) (w : World) (hr : Rows2 w a zss) (hl : Lens zss) (hwf : (Lit.int .i64 h).wf = true) :
    Calls Try.prog 4 #[.agg #[.int .i64 h, .slice a zss.length c]] w fun e w' => e = .returned (.bool true) ∧ Below w.heap.size w w' := by
  have HL := Lib.hid hl
  have HR := Lib.hid hr
  clear hl hr hwf
  go_enter Try.func4, Try.ntmps4
  go_wp2_with fail
  have hb1 := (Below.refl w.heap.size w).alloc (Nat.le_refl _) (.cells #[.int .i64 h, .slice a zss.length c] 26)
  have hA1 : ArgFam (w.alloc (.cells #[.int .i64 h, .slice a zss.length c] 26)) w.heap.size h a zss c := ⟨⟨by simp, by simp⟩, HR.out.below hb1 (Nat.le_refl _)⟩
  have hs1 : w.heap.size < (w.alloc (.cells #[.int .i64 h, .slice a zss.length c] 26)).heap.size := by simp
  refine (szFamily_any h a zss c 1048576 _ hA1.rows (by omega) (by omega) HL.out.1 HL.out.2).mono ?_
  generalize w.alloc (.cells #[.int .i64 h, .slice a zss.length c] 26) = w1 at *
  rintro e w2 ⟨⟨u, hu, rfl⟩, hb2⟩
  have hA2 := hA1.next hb2
  have hB2 := hb1.trans (hb2.mono (Nat.le_of_lt hs1))
  have hs2 : w.heap.size < w2.heap.size := Nat.lt_of_lt_of_le hs1 hb2.size
  clear hb1 hb2 hs1 hA1
  rcases hu with rfl | ⟨hu0, hu1, hsm⟩
  · go_wp2_with fail
    go_ret
    exact ⟨rfl, hB2⟩
  · have HS := Lib.hid hsm
    have HB2 := Lib.hid hB2
    have HA2 := Lib.hid hA2
    obtain ⟨⟨p0, p1⟩, _⟩ := hA2
    clear hsm hB2
    go_wp2_with fail
    refine (toFamily_any h a zss c w2 HA2.out.rows HS.out).mono ?_
    rintro e w3 ⟨rfl, hsz3, ho3, hb3⟩
    have hA3 := HA2.out.next hb3
    have HB3 := Lib.hid (HB2.out.trans (hb3.mono (Nat.le_of_lt hs2)))
    have hs3 : w.heap.size < w3.heap.size := by omega
    have HO3 := Lib.hid ho3
    have HA3 := Lib.hid hA3
    clear p0 p1 hb3 ho3 hsz3 hs2
    go_wp2_with fail
    refine (specValid_any h _ zss _ w3 HO3.out.rows HS.out.lens).mono ?_
    rintro e w4 ⟨rfl, hb4⟩
    have hA4 := HA3.out.next hb4
    have HB4 := Lib.hid (HB3.out.trans (hb4.mono (Nat.le_of_lt hs3)))
    have hs4 : w.heap.size < w4.heap.size := Nat.lt_of_lt_of_le hs3 hb4.size
    have HA4 := Lib.hid hA4
    obtain ⟨⟨p0, p1⟩, _⟩ := hA4
    clear hb4 hs3 hA3
    go_wp2_with fail
    refine (toFamily_any h a zss c w4 HA4.out.rows HS.out).mono ?_
    rintro e w5 ⟨rfl, hsz5, ho5, hb5⟩
    have hA5 := HA4.out.next hb5
    have HB5 := Lib.hid (HB4.out.trans (hb5.mono (Nat.le_of_lt hs4)))
    have hs5 : w.heap.size < w5.heap.size := by omega
    have HO5 := Lib.hid ho5
    have HA5 := Lib.hid hA5
    clear p0 p1 hb5 ho5 hsz5 hs4 hA5
    go_wp2_with fail
    have hb6 := (Below.refl w5.heap.size w5).alloc (Nat.le_refl _) (.cells #[.int .i64 h, .slice (some ⟨w4.heap.size + 3, 0, none⟩) zss.length zss.length] 29)
    have hX6 : FamBox (w5.alloc (.cells #[.int .i64 h, .slice (some ⟨w4.heap.size + 3, 0, none⟩) zss.length zss.length] 29)) w5.heap.size h (some ⟨w4.heap.size + 3, 0, none⟩) zss.length zss.length := ⟨by simp, by simp⟩
    have hs6 : w.heap.size < (w5.alloc (.cells #[.int .i64 h, .slice (some ⟨w4.heap.size + 3, 0, none⟩) zss.length zss.length] 29)).heap.size := by simp; omega
    have hO6 := HO5.out.below hb6 (Nat.le_refl _)
    have hA6 := HA5.out.next hb6
    have hB6 := HB5.out.trans (hb6.mono (Nat.le_of_lt hs5))
    refine (implValid_any h _ zss _ _ hO6.rows HS.out).mono ?_
    generalize w5.alloc (.cells #[.int .i64 h, .slice (some ⟨w4.heap.size + 3, 0, none⟩) zss.length zss.length] 29) = w6 at *
    rintro e w7 ⟨rfl, hb7⟩
    have HO7 := Lib.hid (hO6.below hb7 (Nat.le_refl _))
    have hA7 := hA6.next hb7
    have HA7 := Lib.hid hA7
    have HB7 := Lib.hid (hB6.trans (hb7.mono (Nat.le_of_lt hs6)))
    have hX7 := hX6.below hb7 (Nat.le_refl _)
    have HX7 := Lib.hid hX7
    obtain ⟨⟨p0, p1⟩, _⟩ := hA7
    obtain ⟨q0, q1⟩ := hX7
    have hs7 : w.heap.size < w7.heap.size := Nat.lt_of_lt_of_le hs6 hb7.size
    clear hb6 hX6 hs6 hO6 hA6 hB6 hb7 hs5
    generalize w5.heap.size = qx at *
    go_wp2_with fail
    have hd7 : Below w7.heap.size w7 w7.drew := (Below.refl _ _).drew
    have HA8 := Lib.hid (HA7.out.next hd7)
    have HO8 := Lib.hid (HO7.out.below hd7 (Nat.le_refl _))
    have HX8 := Lib.hid (HX7.out.below hd7 (Nat.le_refl _))
    have HB8 := Lib.hid (HB7.out.trans (hd7.mono (Nat.le_of_lt hs7)))
    have hs8 : w.heap.size < w7.drew.heap.size := hs7
    have HS8 := Lib.hid hs8
    clear hd7 hs8
    go_region_with (first | (go_at_call 12; refine (toFamily_any h a zss c _ HA8.out.rows HS.out).mono ?_; rintro e w8 ⟨rfl, hsz8, ho8, hb8⟩; have q2 := (HX8.out.below hb8 (Nat.le_refl _)).1; have q3 := (HX8.out.below hb8 (Nat.le_refl _)).2; have HB9 := Lib.hid (HB8.out.trans (hb8.mono (Nat.le_of_lt HS8.out))); have HXR := Lib.hid (HO8.out.below hb8 (Nat.le_refl _)); have HYR := Lib.hid ho8; have hs9 := Nat.lt_of_lt_of_le HS8.out hb8.size; clear hsz8 ho8 hb8) | (go_at_call 14; refine (eqFamily_same h _ _ zss _ _ _ HXR.out.rows HYR.out.rows HS.out.lens.1 HS.out.lens.2).mono ?_; rintro e w9 ⟨rfl, hb9⟩; have HB10 := Lib.hid (HB9.out.trans (hb9.mono (Nat.le_of_lt hs9))); clear hb9))
    all_goals (go_wp2_with fail; go_ret; exact ⟨rfl, HB10.out⟩)
theorem own : ownKnob Try.prog.godebug = none := by kernel_rfl
theorem laidOut : laidOutB Try.prog = true := by kernel_rfl

set_option maxRecDepth 100000 in
theorem lifted (os : Os) (started : os.Started) (H : Type) (enc : TypeId × Value → H) :
    ReturnsInHanded {} Try.checked os 4 .any (Rows.fnExactValidFamilySpec.pre6 enc Try.prog Try.f4 Rows.fnExactValidFamilyRow.domain false) (Rows.fnExactValidFamilySpec.post enc Try.prog Try.f4 false true false false) := by
  refine returnsInHanded_of_change (C := Try.checked) own started (by kernel_rfl) Try.func4
    (ChangeSpec.witness6 (enc := enc) (C := Try.checked) false ⟨#[], #[.agg #[.int .i64 0, .slice none 0 0]], []⟩ 8 (by kernel_rfl) (by kernel_rfl) (by kernel_rfl) (by kernel_rfl)) ?_
  intro W base args ds gs before hval0 hW hcnd _
  have hval : ∀ (j : Nat) t v, Try.f4.params[j]? = some t → args[j]? = some v → Value.okWide Try.prog W .any base t v := hval0
  have hW' := hW
  obtain ⟨p, q, hA0, hV, rfl, hfz, hnd⟩ := hW
  have hA : DataW.TrodAll enc Try.prog W 0 (fun _ => true) true Try.f4.params.toList args.toList ds p := hA0
  rw [Try.params4] at hA hval
  obtain ⟨v0, vs0, d0, ds0, p0, q0, hargs, rfl, rfl, h0, r0⟩ := trodAll_cons hA
  obtain ⟨rfl, rfl, rfl⟩ := trodAll_nil r0
  obtain rfl : args = #[v0] := by cases args; simp_all
  obtain ⟨rfl, rfl⟩ := trodVars_none hV
  have k0 := h0
  have lt0 : ∀ x ∈ p0, x.block < W.heap.size := by obtain ⟨m, hm⟩ := k0; exact DataW.trod_lt m _ _ _ hm
  obtain ⟨hh0, a0, z0, c0, rfl, rr0, ll0, wf0⟩ := open_fam (hval 0 26 v0 rfl rfl) h0
  clear hA0 hval0
  refine (law hh0 a0 z0 c0 W rr0 ll0 wf0).mono fun e W' ⟨he, bel⟩ => ?_
  subst he
  exact ⟨_, rfl, _, _, _, [], _, [], hW', trodAll_mk1 (shut_bool Try.underlying4 _), (trodAll_cons_mk (Below.trod laidOut (by kernel_rfl) (of_decide_eq_true (by kernel_rfl)) k0 bel lt0) trodAll_mk0), rfl, bel.frame _, fun h => by cases h⟩

theorem over : Rows.fnExactValidFamilyRow.holds Try.pinned (OpenSpec.ofChange Rows.fnExactValidFamilySpec) :=
  OpenClaim.holds_of_wide 4 Try.f4 rfl rfl rfl rfl rfl rfl rfl ⟨rfl, rfl, rfl, rfl, rfl⟩ rfl rfl rfl rfl rfl (by kernel_rfl) Try.func4 (by kernel_rfl)
    (of_decide_eq_true (by kernel_rfl)) (by unfold Func.isWrapper; first | (rw [if_pos (by decide +kernel)]; kernel_rfl) | (rw [if_neg (by decide +kernel)]; exact ⟨rfl, rfl⟩))
    (fun os started H enc _ => lifted os started H enc)

theorem proved : Rows.FnExactValidFamilySaid := over

end ValidFamily
end Go.Proofs.Ytghkphpafgogjaa

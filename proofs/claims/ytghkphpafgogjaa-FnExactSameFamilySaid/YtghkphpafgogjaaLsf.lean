/- 'laws.FnExactSameFamily': for any two families, valid or not, the program's SameFamily answers what the model answers, and writes into nothing that it was given. No condition. -/
import Derived.Test.YtghkphpafgogjaaSameF
import Derived.Deep.RegionHeld3
namespace Go.Proofs.Ytghkphpafgogjaa
open Go.ChangeShapes Go.WideShapes Go.ChangeAt Go.RowKit Go.Deep
set_option linter.unusedVariables false
namespace SameFamily

/-- What is carried from call to call. -/
structure Carry (w0 : World) (a b : Option Addr) (xs ys : List (List Int)) (w : World) : Prop where
  bel : Below w0.heap.size w0 w
  f : Rows2 w a xs
  g : Rows2 w b ys
theorem Carry.step {w0 : World} {a b : Option Addr} {xs ys : List (List Int)} {w w' : World} (hb : Below w.heap.size w w') (h : Carry w0 a b xs ys w) : Carry w0 a b xs ys w' := ⟨chain h.bel hb, h.f.step hb, h.g.step hb⟩

/-- The same, and the program's own arguments. -/
structure Carry2 (w0 : World) (a b : Option Addr) (gx gy : Nat) (xs ys : List (List Int)) (w : World) : Prop where
  k : Carry w0 a b xs ys w
  x : Own2 w gx xs
  y : Own2 w gy ys
theorem Carry2.step {w0 : World} {a b : Option Addr} {gx gy : Nat} {xs ys : List (List Int)} {w w' : World} (hb : Below w.heap.size w w') (h : Carry2 w0 a b gx gy xs ys w) : Carry2 w0 a b gx gy xs ys w' := ⟨h.k.step hb, h.x.step hb, h.y.step hb⟩
theorem keep8 {w w' : World} {p1 p2 p3 p4 p5 p6 p7 p8 : Addr} {v1 v2 v3 v4 v5 v6 v7 v8 : Value} {C : World → Prop} (hb : Below w.heap.size w w') (hC : C w → C w') (h : w.cell? p1 = some v1 ∧ w.cell? p2 = some v2 ∧ w.cell? p3 = some v3 ∧ w.cell? p4 = some v4 ∧ w.cell? p5 = some v5 ∧ w.cell? p6 = some v6 ∧ w.cell? p7 = some v7 ∧ w.cell? p8 = some v8 ∧ C w) :
    w'.cell? p1 = some v1 ∧ w'.cell? p2 = some v2 ∧ w'.cell? p3 = some v3 ∧ w'.cell? p4 = some v4 ∧ w'.cell? p5 = some v5 ∧ w'.cell? p6 = some v6 ∧ w'.cell? p7 = some v7 ∧ w'.cell? p8 = some v8 ∧ C w' :=
  ⟨cell_step hb h.1, cell_step hb h.2.1, cell_step hb h.2.2.1, cell_step hb h.2.2.2.1, cell_step hb h.2.2.2.2.1, cell_step hb h.2.2.2.2.2.1, cell_step hb h.2.2.2.2.2.2.1, cell_step hb h.2.2.2.2.2.2.2.1, hC h.2.2.2.2.2.2.2.2⟩
theorem keep4 {w w' : World} {p1 p2 p3 p4 : Addr} {v1 v2 v3 v4 : Value} {C : World → Prop} (hb : Below w.heap.size w w') (hC : C w → C w') (h : w.cell? p1 = some v1 ∧ w.cell? p2 = some v2 ∧ w.cell? p3 = some v3 ∧ w.cell? p4 = some v4 ∧ C w) :
    w'.cell? p1 = some v1 ∧ w'.cell? p2 = some v2 ∧ w'.cell? p3 = some v3 ∧ w'.cell? p4 = some v4 ∧ C w' :=
  ⟨cell_step hb h.1, cell_step hb h.2.1, cell_step hb h.2.2.1, cell_step hb h.2.2.2.1, hC h.2.2.2.2⟩

set_option maxHeartbeats 1000000 in
theorem law (hf : Int) (a : Option Addr) (xs : List (List Int)) (ca : Nat) (hg : Int) (b : Option Addr) (ys : List (List Int)) (cb : Nat) (w : World) (hrf : Rows2 w a xs) (hlf : Lens xs) (hwf : (Lit.int .i64 hf).wf = true) (hrg : Rows2 w b ys) (hlg : Lens ys) (hwg : (Lit.int .i64 hg).wf = true) :
    Calls Try.prog 5 #[.agg #[.int .i64 hf, .slice a xs.length ca], .agg #[.int .i64 hg, .slice b ys.length cb]] w fun e w' => e = .returned (.bool true) ∧ Below w.heap.size w w' := by
  have HLF := Lib.hid hlf
  have HLG := Lib.hid hlg
  clear hwf hwg hlf hlg
  go_enter Try.func5, Try.ntmps5
  go_wp2_with fail
  have hb1 := ((Below.refl w.heap.size w).alloc (Nat.le_refl _) (.cells #[.int .i64 hf, .slice a xs.length ca] 26)).alloc (by simp) (.cells #[.int .i64 hg, .slice b ys.length cb] 26)
  have K : Carry w a b xs ys ((w.alloc (.cells #[.int .i64 hf, .slice a xs.length ca] 26)).alloc (.cells #[.int .i64 hg, .slice b ys.length cb] 26)) := ⟨hb1, hrf.step hb1, hrg.step hb1⟩
  have p0 : ((w.alloc (.cells #[.int .i64 hf, .slice a xs.length ca] 26)).alloc (.cells #[.int .i64 hg, .slice b ys.length cb] 26)).cell? ⟨w.heap.size, 0, none⟩ = some (.int .i64 hf) := by simp
  have p1 : ((w.alloc (.cells #[.int .i64 hf, .slice a xs.length ca] 26)).alloc (.cells #[.int .i64 hg, .slice b ys.length cb] 26)).cell? ⟨w.heap.size, 1, none⟩ = some (.slice a xs.length ca) := by simp
  have q0 : ((w.alloc (.cells #[.int .i64 hf, .slice a xs.length ca] 26)).alloc (.cells #[.int .i64 hg, .slice b ys.length cb] 26)).cell? ⟨w.heap.size + 1, 0, none⟩ = some (.int .i64 hg) := by simp
  have q1 : ((w.alloc (.cells #[.int .i64 hf, .slice a xs.length ca] 26)).alloc (.cells #[.int .i64 hg, .slice b ys.length cb] 26)).cell? ⟨w.heap.size + 1, 1, none⟩ = some (.slice b ys.length cb) := by simp
  clear hrf hrg hb1
  refine (szFamily_any hf a xs ca 1048576 _ K.f (by omega) (by omega) HLF.out.1 HLF.out.2).mono ?_
  generalize (w.alloc (.cells #[.int .i64 hf, .slice a xs.length ca] 26)).alloc (.cells #[.int .i64 hg, .slice b ys.length cb] 26) = w1 at *
  rintro e w2 ⟨⟨u, hu, rfl⟩, hb⟩
  replace K := K.step hb
  replace p0 := cell_step hb p0
  replace p1 := cell_step hb p1
  replace q0 := cell_step hb q0
  replace q1 := cell_step hb q1
  clear hb
  rcases hu with rfl | ⟨hu0, hu1, hsm⟩
  · go_wp2_with fail
    go_ret
    exact ⟨rfl, K.bel⟩
  have HSF := Lib.hid hsm
  clear hsm
  go_wp2_with fail
  refine (szFamily_any hg b ys cb u _ K.g (by omega) (by omega) HLG.out.1 HLG.out.2).mono ?_
  rintro e w3 ⟨⟨v, hv, rfl⟩, hb⟩
  replace K := K.step hb
  replace p0 := cell_step hb p0
  replace p1 := cell_step hb p1
  replace q0 := cell_step hb q0
  replace q1 := cell_step hb q1
  clear hb
  rcases hv with rfl | ⟨hv0, hv1, hsm⟩
  · go_wp2_with fail
    go_ret
    exact ⟨rfl, K.bel⟩
  have HSG := Lib.hid hsm
  clear hsm
  go_wp2_with fail
  go_region_held3 (fun w' => w'.cell? ⟨w.heap.size, 0, none⟩ = some (.int .i64 hf) ∧ w'.cell? ⟨w.heap.size, 1, none⟩ = some (.slice a xs.length ca) ∧ w'.cell? ⟨w.heap.size + 1, 0, none⟩ = some (.int .i64 hg) ∧ w'.cell? ⟨w.heap.size + 1, 1, none⟩ = some (.slice b ys.length cb) ∧ Carry w a b xs ys w') (first | exact ⟨cell_step (drew_step _) p0, cell_step (drew_step _) p1, cell_step (drew_step _) q0, cell_step (drew_step _) q1, K.step (drew_step _)⟩ | exact keep4 hb (fun k => k.step hb) (by assumption)) (first | (go_at_call_of 12 hf; obtain ⟨_, _, _, _, KK⟩ := ‹_ ∧ _ ∧ _ ∧ _ ∧ Carry w a b xs ys _›; refine (toFamily_any hf a xs ca _ KK.f HSF.out).mono ?_; clear KK; rintro e wf ⟨rfl, -, hof, hb⟩) | (go_at_call_of 12 hg; obtain ⟨_, _, _, _, KK⟩ := ‹_ ∧ _ ∧ _ ∧ _ ∧ Carry w a b xs ys _›; refine (toFamily_any hg b ys cb _ KK.g HSG.out).mono ?_; clear KK; rintro e wg ⟨rfl, -, hog, hb⟩) | (go_at_call 15; refine (specSame_any hf hg _ _ xs ys _ _ _ ?_ ?_ HSF.out.lens HSG.out.lens).mono ?_; (first | exact hof.rows.step hb | exact hof.rows); (first | exact hog.rows.step hb | exact hog.rows); rintro e ws ⟨rfl, hb⟩))
  all_goals
    clear p0 p1 q0 q1 K
    obtain ⟨p0, p1, q0, q1, K⟩ := ‹_ ∧ _ ∧ _ ∧ _ ∧ Carry w a b xs ys _›
    clear hof hog hb
    go_wp2_with fail
    refine (toFamily_any hf a xs ca _ K.f HSF.out).mono ?_
    rintro e w5 ⟨rfl, -, hx, hb⟩
    replace K := K.step hb
    replace p0 := cell_step hb p0
    replace p1 := cell_step hb p1
    replace q0 := cell_step hb q0
    replace q1 := cell_step hb q1
    clear hb
    generalize ws.heap.size + 3 = gx at *
    have s1 : w.heap.size < w5.heap.size := World.block_lt_of_cell? _ _ p0
    have s2 : w.heap.size + 1 < w5.heap.size := World.block_lt_of_cell? _ _ q0
    go_wp2_with fail
    clear s1 s2
    have hb := (Below.refl w5.heap.size w5).alloc (Nat.le_refl _) (.cells #[.int .i64 hf, .slice (some ⟨gx, 0, none⟩) xs.length xs.length] 29)
    have r0 : (w5.alloc (.cells #[.int .i64 hf, .slice (some ⟨gx, 0, none⟩) xs.length xs.length] 29)).cell? ⟨w5.heap.size, 0, none⟩ = some (.int .i64 hf) := by simp
    have r1 : (w5.alloc (.cells #[.int .i64 hf, .slice (some ⟨gx, 0, none⟩) xs.length xs.length] 29)).cell? ⟨w5.heap.size, 1, none⟩ = some (.slice (some ⟨gx, 0, none⟩) xs.length xs.length) := by simp
    generalize hw6 : w5.alloc (.cells #[.int .i64 hf, .slice (some ⟨gx, 0, none⟩) xs.length xs.length] 29) = w6 at *
    clear hw6
    replace K := K.step hb
    replace p0 := cell_step hb p0
    replace p1 := cell_step hb p1
    replace q0 := cell_step hb q0
    replace q1 := cell_step hb q1
    replace hx := hx.step hb
    clear hb
    generalize w5.heap.size = px at *
    refine (toFamily_any hg b ys cb _ K.g HSG.out).mono ?_
    rintro e w7 ⟨rfl, -, hy, hb⟩
    replace K := K.step hb
    replace p0 := cell_step hb p0
    replace p1 := cell_step hb p1
    replace q0 := cell_step hb q0
    replace q1 := cell_step hb q1
    replace r0 := cell_step hb r0
    replace r1 := cell_step hb r1
    replace hx := hx.step hb
    clear hb
    generalize w6.heap.size + 3 = gy at *
    have s1 : w.heap.size < w7.heap.size := World.block_lt_of_cell? _ _ p0
    have s2 : w.heap.size + 1 < w7.heap.size := World.block_lt_of_cell? _ _ q0
    have s3 : px < w7.heap.size := World.block_lt_of_cell? _ _ r0
    go_wp2_with fail
    clear s1 s2 s3
    have hb := (Below.refl w7.heap.size w7).alloc (Nat.le_refl _) (.cells #[.int .i64 hg, .slice (some ⟨gy, 0, none⟩) ys.length ys.length] 29)
    have t0 : (w7.alloc (.cells #[.int .i64 hg, .slice (some ⟨gy, 0, none⟩) ys.length ys.length] 29)).cell? ⟨w7.heap.size, 0, none⟩ = some (.int .i64 hg) := by simp
    have t1 : (w7.alloc (.cells #[.int .i64 hg, .slice (some ⟨gy, 0, none⟩) ys.length ys.length] 29)).cell? ⟨w7.heap.size, 1, none⟩ = some (.slice (some ⟨gy, 0, none⟩) ys.length ys.length) := by simp
    generalize hw8 : w7.alloc (.cells #[.int .i64 hg, .slice (some ⟨gy, 0, none⟩) ys.length ys.length] 29) = w8 at *
    clear hw8
    replace K := K.step hb
    replace p0 := cell_step hb p0
    replace p1 := cell_step hb p1
    replace q0 := cell_step hb q0
    replace q1 := cell_step hb q1
    replace r0 := cell_step hb r0
    replace r1 := cell_step hb r1
    replace hx := hx.step hb
    replace hy := hy.step hb
    clear hb
    generalize w7.heap.size = py at *
    refine (implSame_any hf hg _ _ xs ys _ _ _ hx.rows hy.rows HSF.out.lens HSG.out.lens).mono ?_
    rintro e w9 ⟨rfl, hb⟩
    replace K := K.step hb
    replace p0 := cell_step hb p0
    replace p1 := cell_step hb p1
    replace q0 := cell_step hb q0
    replace q1 := cell_step hb q1
    replace r0 := cell_step hb r0
    replace r1 := cell_step hb r1
    replace t0 := cell_step hb t0
    replace t1 := cell_step hb t1
    replace hx := hx.step hb
    replace hy := hy.step hb
    clear hb
    go_wp2_with fail
    have K2 : Carry2 w a b gx gy xs ys w9 := ⟨K, hx, hy⟩
    clear K hx hy
    go_region_held3 (fun w' => w'.cell? ⟨w.heap.size, 0, none⟩ = some (.int .i64 hf) ∧ w'.cell? ⟨w.heap.size, 1, none⟩ = some (.slice a xs.length ca) ∧ w'.cell? ⟨w.heap.size + 1, 0, none⟩ = some (.int .i64 hg) ∧ w'.cell? ⟨w.heap.size + 1, 1, none⟩ = some (.slice b ys.length cb) ∧ w'.cell? ⟨px, 0, none⟩ = some (.int .i64 hf) ∧ w'.cell? ⟨px, 1, none⟩ = some (.slice (some ⟨gx, 0, none⟩) xs.length xs.length) ∧ w'.cell? ⟨py, 0, none⟩ = some (.int .i64 hg) ∧ w'.cell? ⟨py, 1, none⟩ = some (.slice (some ⟨gy, 0, none⟩) ys.length ys.length) ∧ Carry2 w a b gx gy xs ys w') (first | exact ⟨cell_step (drew_step _) p0, cell_step (drew_step _) p1, cell_step (drew_step _) q0, cell_step (drew_step _) q1, cell_step (drew_step _) r0, cell_step (drew_step _) r1, cell_step (drew_step _) t0, cell_step (drew_step _) t1, K2.step (drew_step _)⟩ | exact keep8 hb (fun k => k.step hb) (by assumption)) (first | (go_at_call 12; obtain ⟨_, _, _, _, _, _, _, _, KK⟩ := ‹_ ∧ _ ∧ _ ∧ _ ∧ _ ∧ _ ∧ _ ∧ _ ∧ Carry2 w a b gx gy xs ys _›; refine (toFamily_any hf a xs ca _ KK.k.f HSF.out).mono ?_; rintro e wf ⟨rfl, -, hof, hb⟩; have hx1 := KK.x.step hb; clear KK) | (go_at_call 14; refine (eqFamily_same hf _ _ xs _ _ _ hx1.rows hof.rows HSF.out.lens.1 HSF.out.lens.2).mono ?_; rintro e ws ⟨rfl, hb⟩))
    clear p0 p1 q0 q1 r0 r1 t0 t1 K2 hb hx1 hof
    obtain ⟨p0, p1, q0, q1, r0, r1, t0, t1, K2⟩ := ‹_ ∧ _ ∧ _ ∧ _ ∧ _ ∧ _ ∧ _ ∧ _ ∧ Carry2 w a b gx gy xs ys _›
    go_wp2_with fail
    go_region_held3 (fun w' => w'.cell? ⟨w.heap.size, 0, none⟩ = some (.int .i64 hf) ∧ w'.cell? ⟨w.heap.size, 1, none⟩ = some (.slice a xs.length ca) ∧ w'.cell? ⟨w.heap.size + 1, 0, none⟩ = some (.int .i64 hg) ∧ w'.cell? ⟨w.heap.size + 1, 1, none⟩ = some (.slice b ys.length cb) ∧ w'.cell? ⟨px, 0, none⟩ = some (.int .i64 hf) ∧ w'.cell? ⟨px, 1, none⟩ = some (.slice (some ⟨gx, 0, none⟩) xs.length xs.length) ∧ w'.cell? ⟨py, 0, none⟩ = some (.int .i64 hg) ∧ w'.cell? ⟨py, 1, none⟩ = some (.slice (some ⟨gy, 0, none⟩) ys.length ys.length) ∧ Carry2 w a b gx gy xs ys w') (first | exact ⟨cell_step (drew_step _) p0, cell_step (drew_step _) p1, cell_step (drew_step _) q0, cell_step (drew_step _) q1, cell_step (drew_step _) r0, cell_step (drew_step _) r1, cell_step (drew_step _) t0, cell_step (drew_step _) t1, K2.step (drew_step _)⟩ | exact keep8 hb (fun k => k.step hb) (by assumption)) (first | (go_at_call 12; obtain ⟨_, _, _, _, _, _, _, _, KK⟩ := ‹_ ∧ _ ∧ _ ∧ _ ∧ _ ∧ _ ∧ _ ∧ _ ∧ Carry2 w a b gx gy xs ys _›; refine (toFamily_any hg b ys cb _ KK.k.g HSG.out).mono ?_; rintro e wf ⟨rfl, -, hof, hb⟩; have hx1 := KK.y.step hb; clear KK) | (go_at_call 14; refine (eqFamily_same hg _ _ ys _ _ _ hx1.rows hof.rows HSG.out.lens.1 HSG.out.lens.2).mono ?_; rintro e wt ⟨rfl, hb⟩))
    clear p0 p1 q0 q1 r0 r1 t0 t1 K2 hb hx1 hof
    obtain ⟨-, -, -, -, -, -, -, -, K2⟩ := ‹_ ∧ _ ∧ _ ∧ _ ∧ _ ∧ _ ∧ _ ∧ _ ∧ Carry2 w a b gx gy xs ys _›
    go_wp2_with fail
    go_ret
    exact ⟨rfl, K2.k.bel⟩

theorem own : ownKnob Try.prog.godebug = none := by kernel_rfl
theorem laidOut : laidOutB Try.prog = true := by kernel_rfl

set_option maxRecDepth 100000 in
theorem lifted (os : Os) (started : os.Started) (H : Type) (enc : TypeId × Value → H) :
    ReturnsInHanded {} Try.checked os 5 .any (Rows.fnExactSameFamilySpec.pre6 enc Try.prog Try.f5 Rows.fnExactSameFamilyRow.domain false) (Rows.fnExactSameFamilySpec.post enc Try.prog Try.f5 false true false false) := by
  refine returnsInHanded_of_change (C := Try.checked) own started (by kernel_rfl) Try.func5
    (ChangeSpec.witness6 (enc := enc) (C := Try.checked) false ⟨#[], #[.agg #[.int .i64 0, .slice none 0 0], .agg #[.int .i64 0, .slice none 0 0]], []⟩ 8 (by kernel_rfl) (by kernel_rfl) (by kernel_rfl) (by kernel_rfl)) ?_
  intro W base args ds gs before hval0 hW hcnd _
  have hval : ∀ (j : Nat) t v, Try.f5.params[j]? = some t → args[j]? = some v → Value.okWide Try.prog W .any base t v := hval0
  have hW' := hW
  obtain ⟨p, q, hA0, hV, rfl, hfz, hnd⟩ := hW
  have hA : DataW.TrodAll enc Try.prog W 0 (fun _ => true) true Try.f5.params.toList args.toList ds p := hA0
  rw [Try.params5] at hA hval
  obtain ⟨v0, vs0, d0, ds0, p0, q0, hargs, rfl, rfl, h0, r0⟩ := trodAll_cons hA
  obtain ⟨v1, vs1, d1, ds1, p1, q1, rfl, rfl, rfl, h1, r1⟩ := trodAll_cons r0
  obtain ⟨rfl, rfl, rfl⟩ := trodAll_nil r1
  obtain rfl : args = #[v0, v1] := by cases args; simp_all
  obtain ⟨rfl, rfl⟩ := trodVars_none hV
  have k0 := h0
  have lt0 : ∀ x ∈ p0, x.block < W.heap.size := by obtain ⟨m, hm⟩ := k0; exact DataW.trod_lt m _ _ _ hm
  obtain ⟨hh0, a0, z0, c0, rfl, rr0, ll0, wf0⟩ := open_fam (hval 0 26 v0 rfl rfl) h0
  have k1 := h1
  have lt1 : ∀ x ∈ p1, x.block < W.heap.size := by obtain ⟨m, hm⟩ := k1; exact DataW.trod_lt m _ _ _ hm
  obtain ⟨hh1, a1, z1, c1, rfl, rr1, ll1, wf1⟩ := open_fam (hval 1 26 v1 rfl rfl) h1
  clear hA0 hval0
  refine (law hh0 a0 z0 c0 hh1 a1 z1 c1 W rr0 ll0 wf0 rr1 ll1 wf1).mono fun e W' ⟨he, bel⟩ => ?_
  subst he
  exact ⟨_, rfl, _, _, _, [], _, [], hW', trodAll_mk1 (shut_bool Try.underlying4 _), (trodAll_cons_mk (Below.trod laidOut (by kernel_rfl) (of_decide_eq_true (by kernel_rfl)) k0 bel lt0) (trodAll_cons_mk (Below.trod laidOut (by kernel_rfl) (of_decide_eq_true (by kernel_rfl)) k1 bel lt1) trodAll_mk0)), rfl, bel.frame _, fun h => by cases h⟩

theorem over : Rows.fnExactSameFamilyRow.holds Try.pinned (OpenSpec.ofChange Rows.fnExactSameFamilySpec) :=
  OpenClaim.holds_of_wide 5 Try.f5 rfl rfl rfl rfl rfl rfl rfl ⟨rfl, rfl, rfl, rfl, rfl⟩ rfl rfl rfl rfl rfl (by kernel_rfl) Try.func5 (by kernel_rfl)
    (of_decide_eq_true (by kernel_rfl)) (by unfold Func.isWrapper; first | (rw [if_pos (by decide +kernel)]; kernel_rfl) | (rw [if_neg (by decide +kernel)]; exact ⟨rfl, rfl⟩))
    (fun os started H enc _ => lifted os started H enc)

theorem proved : Rows.FnExactSameFamilySaid := over

end SameFamily
end Go.Proofs.Ytghkphpafgogjaa

/- StackRows of the program. -/
import Derived.Test.YtcebphepfkpklaaSk
import Derived.Test.YtcebphepfkpklaaGm
namespace Go.Proofs.Ytcebphepfkpklaa
open Go.RowKit Go.Deep Go.Joins Go.ChangeShapes Go.WideShapes Go.ChangeAt
set_option linter.unusedVariables false
attribute [local go_sem ↓] Go.wp_at_zero Go.wp_at_succ

theorem run_field_grid (v : Value) (p c : Int) (w : World) : Sem.run Try.prog (Instr.field 72 (.agg #[v, .int .i64 p, .int .i64 c]) 0) w = .ok v w := by
  simp [Instr.field, asAgg, go_sem]
set_option maxRecDepth 100000 in
theorem gridOf0_any (p c : Int) (a : Option Addr) (cc : Nat) (w : World) :
    Calls Try.prog 59 #[.agg #[.int .i64 p, .int .i64 c, .slice a 0 cc]] w fun e w' => e = .returned (.agg #[.slice none 0 0, .int .i64 p, .int .i64 c]) ∧ Below w.heap.size w w' := by
  go_enter Try.func59, Try.ntmps59
  go_wp2_with fail
  go_rounds 1
  refine bodyPost_ret (v := .agg #[.slice none 0 0, .int .i64 p, .int .i64 c]) (by simp [results, Try.results59, go_sem]) rfl ⟨rfl, ?_⟩
  go_grown
theorem grows_one {W : World} {base : Nat} {p : Int} {us : List Value} {z : List (List Int)} (h : RowsN W base p us z) : ∀ u ∈ us, u.oneCell' = true := fun u hu => by
  obtain ⟨i, hi, rfl⟩ := List.mem_iff_getElem.1 hu
  obtain ⟨a, c, e, _⟩ := (h.own i us[i] (z[i]'(by rw [← h.len]; exact hi)) (by simp [hi]) (by simp)).nums
  rw [e]; rfl
theorem grid_cat {W : World} {B1 B2 B3 n c : Nat} {p : Int} {a : Option Addr} {us us2 : List Value} {z y : List (List Int)} (hr : W.ownsRow B1 75 1 (.slice a n c) (z.length + y.length) (us ++ us2)) (h1 : RowsN W B2 p us z) (h2 : RowsN W B3 p us2 y) :
    n = (z ++ y).length ∧ GridR W a p (z ++ y) := by
  obtain ⟨a', c', e⟩ := rowForm hr
  cases e
  refine ⟨by simp, ?_⟩
  rcases hr.2 with ⟨hv, hn⟩ | ⟨g, cap, cur, hv, _⟩
  · exact .inl (List.eq_nil_of_length_eq_zero (by simpa using hn))
  · cases hv
    refine .inr ⟨g, rfl, fun i hi => ?_⟩
    rw [World.ownsRow.cellAt hr i (by simpa using hi)]
    by_cases hz : i < z.length
    · have hu : i < us.length := by rw [h1.len]; exact hz
      obtain ⟨a2, c2, e2, hI⟩ := (h1.own i us[i] z[i] (by simp [hu]) (by simp [hz])).nums
      have e3 : nthL (z ++ y) i = z[i] := by rw [nthL_lt hi]; simp [hz]
      rw [e3, List.getElem?_append_left hu, List.getElem?_eq_getElem hu, e2]
      exact ⟨a2, c2, rfl, hI⟩
    · have hy : i - z.length < y.length := by simp at hi; omega
      have hu : i - us.length < us2.length := by rw [h2.len, h1.len]; exact hy
      obtain ⟨a2, c2, e2, hI⟩ := (h2.own (i - us.length) us2[i - us.length] (y[i - z.length]) (by simp [hu]) (by rw [h1.len]; simp [hy])).nums
      have e3 : nthL (z ++ y) i = y[i - z.length] := by rw [nthL_lt hi, List.getElem_append_right (by omega)]
      rw [e3, List.getElem?_append_right (by rw [h1.len]; omega), List.getElem?_eq_getElem hu, e2]
      exact ⟨a2, c2, rfl, hI⟩
theorem mw_ok (p c : Int) (a : Option Addr) (zss : List (List Int)) (n ca : Nat) (hn : n = zss.length) (w : World) (hr : GridR w a p zss) (hs : Small2 zss) (hok : MatOk p c zss) :
    Calls Try.prog 67 #[.agg #[.slice a n ca, .int .i64 p, .int .i64 c]] w (GivesMY w p c zss 0) := by subst hn; exact matrixWithin_ok p c a zss ca w hr hs hok
theorem mw_no (p c : Int) (a : Option Addr) (zss : List (List Int)) (n ca : Nat) (hn : n = zss.length) (w : World) (hr : GridR w a p zss) (hs : Small2 zss) (hok : ¬ MatOk p c zss) :
    Calls Try.prog 67 #[.agg #[.slice a n ca, .int .i64 p, .int .i64 c]] w (GivesMY w 0 0 [] 3) := by subst hn; exact matrixWithin_no p c a zss ca w hr hs hok
theorem step_append_none {P : Program} {ops : Array Oper} {o : Oper} {a : Act} {w : World} {K : Act → World → Prop} {Q : Exit → Act → World → Prop} {E : Prop} (hgd : o.guard = none) (s x : Operand) (t : TypeId)
    (ho : o.op = .call { callee := .builtin .append, args := #[s, x], argTypes := #[t, t] })
    (base : Nat) (e : TypeId) (i : TypeInfo) (size : Nat) (ht : P.underlying t = some (.slice e)) (hi : P.info? e = some i)
    (v : Value) (n : Nat) (xs : List Value) (hs : a.eval s = v) (hown : w.ownsRow base e size v n xs) (c : Nat) (hx : a.eval x = .slice none 0 c)
    (h : K (a.put o.dst v) w) : if Region.wanted o (yielded ops a.tmps) = true then Oper.wp P o a w K Q else E := by
  have hw : Region.wanted o (yielded ops a.tmps) = true := by simp [Region.wanted, hgd]
  rw [if_pos hw]
  have hrun := run_append_none_c (P := P) (w := w) base t o.type e i size ht hi v n xs c hown
  unfold Oper.wp
  simp [execOp, ho, resolve, invoke, builtin, hs, hx, hrun, Result.andThen]
  exact h

set_option maxRecDepth 100000 in
set_option maxHeartbeats 4000000 in
theorem implSk_any (p c : Int) (a : Option Addr) (z : List (List Int)) (ca : Nat) (q d : Int) (b : Option Addr) (y : List (List Int)) (cb : Nat) (w : World) (hr : Rows2 w a z) (hl : Lens z) (hr' : Rows2 w b y) (hl' : Lens y) :
    Calls Try.prog 26 #[.agg #[.int .i64 p, .int .i64 c, .slice a z.length ca], .agg #[.int .i64 q, .int .i64 d, .slice b y.length cb]] w (GivesMY w (skSel p c z q d y 0 0 0 p) (skSel p c z q d y 0 0 0 c) (skSel p c z q d y [] [] [] (z ++ y)) (skSel p c z q d y 1 2 3 0)) := by
  have HR := Lib.hid hr
  have HL := Lib.hid hl
  have HR' := Lib.hid hr'
  have HL' := Lib.hid hl'
  clear hr hl hr' hl'
  go_enter Try.func26, Try.ntmps26
  go_wp2_with fail
  have hb3 := (((Below.refl w.heap.size w).alloc (Nat.le_refl _) (.cells #[.int .i64 p, .int .i64 c, .slice a z.length ca] 27)).alloc (by simp) (.cells #[.int .i64 q, .int .i64 d, .slice b y.length cb] 27)).alloc (by simp; omega) (.cells #[.int .i64 0, .int .i64 0, .slice none 0 0] 27)
  have hs3 : (((w.alloc (.cells #[.int .i64 p, .int .i64 c, .slice a z.length ca] 27)).alloc (.cells #[.int .i64 q, .int .i64 d, .slice b y.length cb] 27)).alloc (.cells #[.int .i64 0, .int .i64 0, .slice none 0 0] 27)).heap.size = w.heap.size + 3 := by simp
  have hx : Boxes (((w.alloc (.cells #[.int .i64 p, .int .i64 c, .slice a z.length ca] 27)).alloc (.cells #[.int .i64 q, .int .i64 d, .slice b y.length cb] 27)).alloc (.cells #[.int .i64 0, .int .i64 0, .slice none 0 0] 27)) w.heap.size 27 #[.int .i64 p, .int .i64 c, .slice a z.length ca] := (Boxes.step (World.alloc_heap_new w _) ((Below.refl _ _).alloc (Nat.le_refl _) (.cells #[.int .i64 q, .int .i64 d, .slice b y.length cb] 27))).step ((Below.refl _ _).alloc (Nat.le_refl _) (.cells #[.int .i64 0, .int .i64 0, .slice none 0 0] 27))
  have hy : Boxes (((w.alloc (.cells #[.int .i64 p, .int .i64 c, .slice a z.length ca] 27)).alloc (.cells #[.int .i64 q, .int .i64 d, .slice b y.length cb] 27)).alloc (.cells #[.int .i64 0, .int .i64 0, .slice none 0 0] 27)) (w.heap.size + 1) 27 #[.int .i64 q, .int .i64 d, .slice b y.length cb] := by
    have h : Boxes ((w.alloc (.cells #[.int .i64 p, .int .i64 c, .slice a z.length ca] 27)).alloc (.cells #[.int .i64 q, .int .i64 d, .slice b y.length cb] 27)) (w.alloc (.cells #[.int .i64 p, .int .i64 c, .slice a z.length ca] 27)).heap.size 27 #[.int .i64 q, .int .i64 d, .slice b y.length cb] := World.alloc_heap_new _ _
    simp only [World.size_alloc] at h
    exact h.step ((Below.refl _ _).alloc (Nat.le_refl _) (.cells #[.int .i64 0, .int .i64 0, .slice none 0 0] 27))
  have hz : Boxes (((w.alloc (.cells #[.int .i64 p, .int .i64 c, .slice a z.length ca] 27)).alloc (.cells #[.int .i64 q, .int .i64 d, .slice b y.length cb] 27)).alloc (.cells #[.int .i64 0, .int .i64 0, .slice none 0 0] 27)) (w.heap.size + 2) 27 #[.int .i64 0, .int .i64 0, .slice none 0 0] := by
    have h : Boxes (((w.alloc (.cells #[.int .i64 p, .int .i64 c, .slice a z.length ca] 27)).alloc (.cells #[.int .i64 q, .int .i64 d, .slice b y.length cb] 27)).alloc (.cells #[.int .i64 0, .int .i64 0, .slice none 0 0] 27)) ((w.alloc (.cells #[.int .i64 p, .int .i64 c, .slice a z.length ca] 27)).alloc (.cells #[.int .i64 q, .int .i64 d, .slice b y.length cb] 27)).heap.size 27 #[.int .i64 0, .int .i64 0, .slice none 0 0] := World.alloc_heap_new _ _
    simp only [World.size_alloc] at h
    exact h
  have hr3 := HR.out.below hb3 (Nat.le_refl _)
  refine (implVm_any p c a z ca _ hr3 HL.out).mono ?_
  generalize ((w.alloc (.cells #[.int .i64 p, .int .i64 c, .slice a z.length ca] 27)).alloc (.cells #[.int .i64 q, .int .i64 d, .slice b y.length cb] 27)).alloc (.cells #[.int .i64 0, .int .i64 0, .slice none 0 0] 27) = w3 at *
  rintro e w4 ⟨rfl, hb4⟩
  have HX := Lib.hid (hx.step hb4)
  have HY := Lib.hid (hy.step hb4)
  have HZ := Lib.hid (hz.step hb4)
  have HB := Lib.hid (hb3.trans (hb4.mono (by omega)))
  have hs4 : w.heap.size + 3 ≤ w4.heap.size := by have := hb4.size; omega
  clear hb3 hb4 hx hy hz hr3 hs3
  have r0 := HZ.out.m0
  have r1 := HZ.out.m1
  have r2 := HZ.out.m2
  have f0 := HZ.out.frozen 0
  have f1 := HZ.out.frozen 1
  have f2 := HZ.out.frozen 2
  have x0 := HX.out.m0
  have x1 := HX.out.m1
  have x2 := HX.out.m2
  have y0 := HY.out.m0
  have y1 := HY.out.m1
  have y2 := HY.out.m2
  have lz := HZ.out.lt
  have lx := HX.out.lt
  have ly := HY.out.lt
  by_cases hm : MatOk p c z
  case neg =>
    have HT := Lib.hid (tell_false hm)
    have HV := Lib.hid (fun (α : Type) (b r l o : α) => sk_bad (q := q) (d := d) (y := y) (fun k => hm k.1) b r l o)
    clear hm
    rw [HT.out]
    go_wp2_with fail
    refine bodyPost_ret (v := .tuple #[.agg #[.int .i64 0, .int .i64 0, .slice none 0 0], .int .i64 1]) (by simp [results, Try.results26, go_sem, r0, r1, r2]) rfl ⟨⟨.slice none 0 0, [], by rw [HV.out, HV.out, HV.out], by rw [HV.out]; exact Own.nil3 _ _⟩, (((HB.out.setCell (p := ⟨w.heap.size + 2, 0, none⟩) (by show w.heap.size ≤ w.heap.size + 2; omega) _).setCell (p := ⟨w.heap.size + 2, 1, none⟩) (by show w.heap.size ≤ w.heap.size + 2; omega) _).setCell (p := ⟨w.heap.size + 2, 2, none⟩) (by show w.heap.size ≤ w.heap.size + 2; omega) _)⟩
  have HT := Lib.hid (tell_true hm)
  have HM := Lib.hid hm
  clear hm
  rw [HT.out]
  go_wp2_with fail
  refine (implVm_any q d b y cb _ (HR'.out.below HB.out (Nat.le_refl _)) HL'.out).mono ?_
  clear r0 r1 r2 f0 f1 f2 x0 x1 x2 y0 y1 y2 lz lx ly
  rintro e w5 ⟨rfl, hb5⟩
  replace HX := Lib.hid (HX.out.step hb5)
  replace HY := Lib.hid (HY.out.step hb5)
  replace HZ := Lib.hid (HZ.out.step hb5)
  replace HB := Lib.hid (HB.out.trans (hb5.mono HB.out.size))
  have hs5 : w.heap.size + 3 ≤ w5.heap.size := by have := hb5.size; omega
  clear hb5 hs4
  have r0 := HZ.out.m0
  have r1 := HZ.out.m1
  have r2 := HZ.out.m2
  have f0 := HZ.out.frozen 0
  have f1 := HZ.out.frozen 1
  have f2 := HZ.out.frozen 2
  have x0 := HX.out.m0
  have x1 := HX.out.m1
  have x2 := HX.out.m2
  have y0 := HY.out.m0
  have y1 := HY.out.m1
  have y2 := HY.out.m2
  have lz := HZ.out.lt
  have lx := HX.out.lt
  have ly := HY.out.lt
  by_cases hn : MatOk q d y
  case neg =>
    have HT := Lib.hid (tell_false hn)
    have HV := Lib.hid (fun (α : Type) (b r l o : α) => sk_bad (p := p) (c := c) (z := z) (fun k => hn k.2) b r l o)
    clear hn
    rw [HT.out]
    go_wp2_with fail
    refine bodyPost_ret (v := .tuple #[.agg #[.int .i64 0, .int .i64 0, .slice none 0 0], .int .i64 1]) (by simp [results, Try.results26, go_sem, r0, r1, r2]) rfl ⟨⟨.slice none 0 0, [], by rw [HV.out, HV.out, HV.out], by rw [HV.out]; exact Own.nil3 _ _⟩, (((HB.out.setCell (p := ⟨w.heap.size + 2, 0, none⟩) (by show w.heap.size ≤ w.heap.size + 2; omega) _).setCell (p := ⟨w.heap.size + 2, 1, none⟩) (by show w.heap.size ≤ w.heap.size + 2; omega) _).setCell (p := ⟨w.heap.size + 2, 2, none⟩) (by show w.heap.size ≤ w.heap.size + 2; omega) _)⟩
  have HU := Lib.hid (tell_true hn)
  have HN := Lib.hid hn
  clear hn
  rw [HU.out]
  by_cases he : p = q ∧ c = d
  case neg =>
    have HV := Lib.hid (fun (α : Type) (b r l o : α) => sk_rng ⟨HM.out, HN.out⟩ he b r l o)
    by_cases hpq : p = q
    · have hcd : (c != d) = true := by simp; exact fun e => he ⟨hpq, e⟩
      subst hpq
      clear he
      go_wp2_with fail
      refine bodyPost_ret (v := .tuple #[.agg #[.int .i64 0, .int .i64 0, .slice none 0 0], .int .i64 2]) (by simp [results, Try.results26, go_sem, r0, r1, r2]) rfl ⟨⟨.slice none 0 0, [], by rw [HV.out, HV.out, HV.out], by rw [HV.out]; exact Own.nil3 _ _⟩, (((HB.out.setCell (p := ⟨w.heap.size + 2, 0, none⟩) (by show w.heap.size ≤ w.heap.size + 2; omega) _).setCell (p := ⟨w.heap.size + 2, 1, none⟩) (by show w.heap.size ≤ w.heap.size + 2; omega) _).setCell (p := ⟨w.heap.size + 2, 2, none⟩) (by show w.heap.size ≤ w.heap.size + 2; omega) _)⟩
    · have hpq' : (p != q) = true := by simp; exact hpq
      clear he
      go_wp2_with fail
      refine bodyPost_ret (v := .tuple #[.agg #[.int .i64 0, .int .i64 0, .slice none 0 0], .int .i64 2]) (by simp [results, Try.results26, go_sem, r0, r1, r2]) rfl ⟨⟨.slice none 0 0, [], by rw [HV.out, HV.out, HV.out], by rw [HV.out]; exact Own.nil3 _ _⟩, (((HB.out.setCell (p := ⟨w.heap.size + 2, 0, none⟩) (by show w.heap.size ≤ w.heap.size + 2; omega) _).setCell (p := ⟨w.heap.size + 2, 1, none⟩) (by show w.heap.size ≤ w.heap.size + 2; omega) _).setCell (p := ⟨w.heap.size + 2, 2, none⟩) (by show w.heap.size ≤ w.heap.size + 2; omega) _)⟩
  obtain ⟨rfl, rfl⟩ := he
  have HSZ := Lib.hid (mat_small3 HM.out)
  have HSY := Lib.hid (mat_small3 HN.out)
  have hz20 : z.length ≤ 20 := HM.out.2.2.1
  have hy20 : y.length ≤ 20 := HN.out.2.2.1
  go_wp2_with fail
  refine (gridOf_any p c a z ca _ (HR.out.below HB.out (Nat.le_refl _)) HSZ.out).mono ?_
  clear r0 r1 r2 f0 f1 f2 x0 x1 x2 y0 y1 y2 lz lx ly
  rintro e w6 ⟨⟨v6, us, rfl, ho⟩, hb6⟩
  obtain ⟨va, vc, rfl⟩ := ho.form
  replace HX := Lib.hid (HX.out.step hb6)
  replace HY := Lib.hid (HY.out.step hb6)
  replace HZ := Lib.hid (HZ.out.step hb6)
  replace HB := Lib.hid (HB.out.trans (hb6.mono HB.out.size))
  have hs6 : w.heap.size + 3 ≤ w6.heap.size := by have := hb6.size; omega
  have h5s : w5.heap.size ≤ w6.heap.size := hb6.size
  have hb7 := (Below.refl w6.heap.size w6).alloc (Nat.le_refl _) (.cells #[.slice va z.length vc, .int .i64 p, .int .i64 c] 72)
  have hk7 : Boxes (w6.alloc (.cells #[.slice va z.length vc, .int .i64 p, .int .i64 c] 72)) w6.heap.size 72 #[.slice va z.length vc, .int .i64 p, .int .i64 c] := World.alloc_heap_new _ _
  have hs7 : (w6.alloc (.cells #[.slice va z.length vc, .int .i64 p, .int .i64 c] 72)).heap.size = w6.heap.size + 1 := by simp
  have HW5 := Lib.hid (show ∀ r, (Value.slice va z.length vc).ownBlock = some r → r < w6.heap.size from fun r e => (row_lt ho.row e).2)
  have HO := Lib.hid (ho.step hb7)
  clear hb6 ho HX
  have y0 := HY.out.m0
  have y1 := HY.out.m1
  have y2 := HY.out.m2
  have ly := HY.out.lt
  have HRY := Lib.hid (show Rows2 (w6.alloc (.cells #[.slice va z.length vc, .int .i64 p, .int .i64 c] 72)) b y from (HR'.out.below HB.out (Nat.le_refl _)).below hb7 (Nat.le_refl _))
  have HY7 := Lib.hid (HY.out.step hb7)
  have HZ7 := Lib.hid (HZ.out.step hb7)
  have HB7 := Lib.hid (HB.out.trans (hb7.mono HB.out.size))
  have HK7 := Lib.hid hk7
  obtain ⟨i1, ji, jz0, jz1, jz2⟩ := info_parts Try.infoNums
  go_wp2_with fail
  generalize w6.alloc (.cells #[.slice va z.length vc, .int .i64 p, .int .i64 c] 72) = w7 at *
  generalize hkk : w6.heap.size = kk at *
  clear y0 y1 y2 ly HY HZ HB hb7 hk7
  have k0 := HK7.out.m0
  have k1 := HK7.out.m1
  have k2 := HK7.out.m2
  have kf := HK7.out.frozen 0
  have lk := HK7.out.lt
  have y0 := HY7.out.m0
  have y1 := HY7.out.m1
  have ly := HY7.out.lt
  by_cases hy0 : y.length = 0
  · have hy : y = [] := List.eq_nil_of_length_eq_zero hy0
    subst hy
    have y2 : w7.cell? ⟨w.heap.size + 1, 2, none⟩ = some (.slice b 0 cb) := HY7.out.m2
    clear hy0
    go_region_law ((first | (go_simp; go_at_call 59; refine (gridOf0_any p c b cb _).mono ?_; rintro e w8 ⟨rfl, hb8⟩; have hfl := run_field_grid (.slice none 0 0) p c; have HK8 := Lib.hid (show Boxes w8 kk 72 #[.slice va z.length vc, .int .i64 p, .int .i64 c] by first | exact HK7.out.step hb8 | exact (HK7.out.step (drew_step _)).step hb8); have HO8 := Lib.hid (show OwnG w8 w5.heap.size p (.slice va z.length vc) us z by first | exact HO.out.step hb8 | exact (HO.out.step (drew_step _)).step hb8); have HZ8 := Lib.hid (show Boxes w8 (w.heap.size + 2) 27 #[.int .i64 0, .int .i64 0, .slice none 0 0] by first | exact HZ7.out.step hb8 | exact (HZ7.out.step (drew_step _)).step hb8); have HB8 := Lib.hid (show Below w.heap.size w w8 by first | exact HB7.out.trans (hb8.mono HB7.out.size) | exact HB7.out.drew.trans (hb8.mono HB7.out.size)); have h78 : w7.heap.size ≤ w8.heap.size := hb8.size; have z0 := HK8.out.m0; have zf := HK8.out.frozen 0; have zl := HK8.out.lt) | (refine step_append_none (by rfl) _ _ 69 (by rfl) w5.heap.size 75 i1 1 Try.underlying69 ji (.slice va z.length vc) z.length us (by rfl) (by first | exact HO8.out.row | exact row_step HO8.out.row (drew_step _)) 0 (by rfl) ?_)))
    all_goals (
      clear k0 k1 k2 kf lk y0 y1 y2 ly
      have HR9 := Lib.hid (show w8.ownsRow w5.heap.size 75 1 (.slice va z.length vc) (z.length + ([] : List (List Int)).length) (us ++ []) by simpa using HO8.out.row)
      have HA9 := Lib.hid HO8.out.rows
      have HB9 := Lib.hid (RowsN.nil w8 w7.heap.size p)
      have HZ9 := HZ8
      have HW9 := HB8
      have HK9 := HK8
      have k0 := HK9.out.m0
      have k1 := HK9.out.m1
      have k2 := HK9.out.m2
      have kf := HK9.out.frozen 0
      have lk := HK9.out.lt
      clear HK8 HO8 HZ8 HB8 hfl z0 zf zl hb8
      have HRS := Lib.hid (row_setb HR9.out HK9.out.is (by decide) (o := 0) (.slice va z.length vc))
      have HAS := Lib.hid (show RowsN (w8.setCell ⟨kk, 0, none⟩ (.slice va z.length vc)) w5.heap.size p us z from HA9.out.map fun _ _ k => row_setb k HK9.out.is (by decide) _)
      have HBS := Lib.hid (show RowsN (w8.setCell ⟨kk, 0, none⟩ (.slice va z.length vc)) w7.heap.size p [] [] from HB9.out.map fun _ _ k => row_setb k HK9.out.is (by decide) _)
      have hr9s := (grid_cat HRS.out HAS.out HBS.out).2
      have HZS := Lib.hid (show Boxes (w8.setCell ⟨kk, 0, none⟩ (.slice va z.length vc)) (w.heap.size + 2) 27 #[.int .i64 0, .int .i64 0, .slice none 0 0] by
        unfold Boxes
        rw [Below.heap_setCell _ _ _ (w.heap.size + 2) (by show w.heap.size + 2 ≠ kk; omega)]
        exact HZ9.out)
      have HWS := Lib.hid (HW9.out.setCell (p := ⟨kk, 0, none⟩) (by show w.heap.size ≤ kk; omega) (.slice va z.length vc))
      clear HR9 HA9 HB9 HZ9 HW9
      go_wp2_with fail
      generalize w8.setCell ⟨kk, 0, none⟩ (.slice va z.length vc) = w10 at *
      clear k0 k1 k2 kf lk HK9 HRS HAS HBS
      by_cases h20 : z.length + ([] : List (List Int)).length ≤ 20
      · refine (mw_ok p c va (z ++ []) z.length vc (by simp) _ hr9s (small_cat HM.out HN.out) ((mat_cat HM.out HN.out).2 h20)).mono ?_
        have HV := Lib.hid (fun (α : Type) (b r l o : α) => sk_ok ⟨HM.out, HN.out⟩ ⟨rfl, rfl⟩ h20 b r l o)
        rintro e w11 ⟨⟨v11, us11, rfl, ho11⟩, hb11⟩
        obtain ⟨xa, xc, rfl⟩ := ho11.form
        have HO11 := Lib.hid ho11
        have hs10 := HZS.out.lt
        replace HZS := Lib.hid (HZS.out.step hb11)
        replace HWS := Lib.hid (HWS.out.trans (hb11.mono HWS.out.size))
        have r0 := HZS.out.m0
        have r1 := HZS.out.m1
        have r2 := HZS.out.m2
        have f0 := HZS.out.frozen 0
        have f1 := HZS.out.frozen 1
        have f2 := HZS.out.frozen 2
        have lz := HZS.out.lt
        clear hb11 ho11 hr9s
        go_wp2_with fail
        refine bodyPost_ret (v := .tuple #[.agg #[.int .i64 p, .int .i64 c, .slice xa z.length xc], .int .i64 0]) (by simp [results, Try.results26, go_sem, r0, r1, r2]) rfl ⟨⟨.slice xa (z ++ []).length xc, us11, by rw [HV.out, HV.out, HV.out]; simp, by rw [HV.out]; first | exact ((((HO11.out.setCell3 (p := ⟨w.heap.size + 2, 0, none⟩) (by show w.heap.size + 2 < w10.heap.size; omega) _).setCell3 (p := ⟨w.heap.size + 2, 1, none⟩) (by show w.heap.size + 2 < w10.heap.size; omega) _).setCell3 (p := ⟨w.heap.size + 2, 2, none⟩) (by show w.heap.size + 2 < w10.heap.size; omega) _)).mono3 (by omega) | simpa using ((((HO11.out.setCell3 (p := ⟨w.heap.size + 2, 0, none⟩) (by show w.heap.size + 2 < w10.heap.size; omega) _).setCell3 (p := ⟨w.heap.size + 2, 1, none⟩) (by show w.heap.size + 2 < w10.heap.size; omega) _).setCell3 (p := ⟨w.heap.size + 2, 2, none⟩) (by show w.heap.size + 2 < w10.heap.size; omega) _)).mono3 (by omega)⟩, (((HWS.out.setCell (p := ⟨w.heap.size + 2, 0, none⟩) (by show w.heap.size ≤ w.heap.size + 2; omega) _).setCell (p := ⟨w.heap.size + 2, 1, none⟩) (by show w.heap.size ≤ w.heap.size + 2; omega) _).setCell (p := ⟨w.heap.size + 2, 2, none⟩) (by show w.heap.size ≤ w.heap.size + 2; omega) _)⟩
      · exact absurd (by simpa using hz20) h20)
  · have hpos : 0 < y.length := Nat.pos_of_ne_zero hy0
    have y2 := HY7.out.m2
    clear hy0
    go_region_law ((first | (go_simp; go_at_call 59; refine (gridOf_any p c b y cb _ (by first | exact HRY.out | exact HRY.out.below (Below.refl _ _).drew (Nat.le_refl _)) HSY.out).mono ?_; rintro e w8 ⟨⟨v8, us2, rfl, ho8⟩, hb8⟩; obtain ⟨g8, c8, rfl, hg80, hg81⟩ := ho8.row.form hpos; have HN8 := Lib.hid ho8; have hnews8 : ∀ (j : Nat) (u : Value), us2[j]? = some u → w8.cell? ((⟨g8, 0, none⟩ : Addr).add j) = some u := (fun j u hj => (by rw [add_plain, Nat.zero_add, World.ownsRow.cellAt ho8.row j (by have := (List.getElem?_eq_some_iff.1 hj).1; rw [ho8.rows.len] at this; omega)]; exact hj)); have hfl := run_field_grid (.slice (some ⟨g8, 0, none⟩) y.length c8) p c; have HK8 := Lib.hid (show Boxes w8 kk 72 #[.slice va z.length vc, .int .i64 p, .int .i64 c] by first | exact HK7.out.step hb8 | exact (HK7.out.step (drew_step _)).step hb8); have HO8 := Lib.hid (show OwnG w8 w5.heap.size p (.slice va z.length vc) us z by first | exact HO.out.step hb8 | exact (HO.out.step (drew_step _)).step hb8); have HZ8 := Lib.hid (show Boxes w8 (w.heap.size + 2) 27 #[.int .i64 0, .int .i64 0, .slice none 0 0] by first | exact HZ7.out.step hb8 | exact (HZ7.out.step (drew_step _)).step hb8); have HB8 := Lib.hid (show Below w.heap.size w w8 by first | exact HB7.out.trans (hb8.mono HB7.out.size) | exact HB7.out.drew.trans (hb8.mono HB7.out.size)); have h78 : w7.heap.size ≤ w8.heap.size := hb8.size; have z0 := HK8.out.m0; have zf := HK8.out.frozen 0; have zl := HK8.out.lt) | (refine step_append_lies _ (by rfl) _ _ 69 (by rfl) w5.heap.size 75 i1 (.slice none 0 0) 1 24 Try.underlying69 ji jz0 jz1 jz2 (by rfl) (by decide) (.slice va z.length vc) z.length us (by rfl) (by first | exact HO8.out.row | exact row_step HO8.out.row (drew_step _)) ⟨g8, 0, none⟩ y.length c8 us2 (by rfl) (by rw [HN8.out.rows.len]; omega) (by first | exact hnews8 | exact fun j u hj => cell_step (drew_step _) (hnews8 j u hj)) (grows_one HN8.out.rows) hpos (by unfold maxLen; omega) (by omega) (by first | omega | (simp only [World.size_drew]; omega)) _ rfl ?_; intro g cap w9 hown9 hgrow9 hat9 hlt9; have HK9 := Lib.hid (show Boxes w9 kk 72 #[.slice va z.length vc, .int .i64 p, .int .i64 c] from by first | exact HK8.out.grown hgrow9 (fun e => by have := HW5.out _ e; omega) | exact (HK8.out.step (drew_step _)).grown hgrow9 (fun e => by have := HW5.out _ e; omega)); have k0 := HK9.out.m0; have k1 := HK9.out.m1; have k2 := HK9.out.m2; have kf := HK9.out.frozen 0; have lk := HK9.out.lt)))
    all_goals (
      clear k0 k1 k2 kf lk y0 y1 y2 ly
      have k0 := HK9.out.m0
      have k1 := HK9.out.m1
      have k2 := HK9.out.m2
      have kf := HK9.out.frozen 0
      have lk := HK9.out.lt
      have HR9 := Lib.hid hown9
      have HA9 := Lib.hid (show RowsN w9 w5.heap.size p us z from by first | exact HO8.out.rows.map fun u zs ho => row_other ho HO8.out.row hgrow9 (by decide) | exact (HO8.out.step (drew_step _)).rows.map fun u zs ho => row_other ho (row_step HO8.out.row (drew_step _)) hgrow9 (by decide))
      have HB9 := Lib.hid (show RowsN w9 w7.heap.size p us2 y from by first | exact HN8.out.rows.map fun u zs ho => row_other ho HO8.out.row hgrow9 (by decide) | exact (HN8.out.step (drew_step _)).rows.map fun u zs ho => row_other ho (row_step HO8.out.row (drew_step _)) hgrow9 (by decide))
      have HZ9 := Lib.hid (show Boxes w9 (w.heap.size + 2) 27 #[.int .i64 0, .int .i64 0, .slice none 0 0] from by first | exact HZ8.out.grown hgrow9 (row_ge HO8.out.row (by omega)) | exact (HZ8.out.step (drew_step _)).grown hgrow9 (row_ge HO8.out.row (by omega)))
      have HW9 := Lib.hid (show Below w.heap.size w w9 from by first | exact HB8.out.grown hgrow9 (by omega) (fun r hr => by have := row_lt HO8.out.row hr; omega) | exact HB8.out.drew.grown hgrow9 (by simp only [World.size_drew]; omega) (fun r hr => by have := row_lt HO8.out.row hr; omega))
      clear hown9 hgrow9 hat9 hlt9 HK8 HO8 HZ8 HB8 hfl z0 zf zl hb8 ho8 hnews8 HN8
      have HRS := Lib.hid (row_setb HR9.out HK9.out.is (by decide) (o := 0) (.slice (some ⟨g, 0, none⟩) (z.length + y.length) cap))
      have HAS := Lib.hid (show RowsN (w9.setCell ⟨kk, 0, none⟩ (.slice (some ⟨g, 0, none⟩) (z.length + y.length) cap)) w5.heap.size p us z from HA9.out.map fun _ _ k => row_setb k HK9.out.is (by decide) _)
      have HBS := Lib.hid (show RowsN (w9.setCell ⟨kk, 0, none⟩ (.slice (some ⟨g, 0, none⟩) (z.length + y.length) cap)) w7.heap.size p us2 y from HB9.out.map fun _ _ k => row_setb k HK9.out.is (by decide) _)
      have hr9s := (grid_cat HRS.out HAS.out HBS.out).2
      have HZS := Lib.hid (show Boxes (w9.setCell ⟨kk, 0, none⟩ (.slice (some ⟨g, 0, none⟩) (z.length + y.length) cap)) (w.heap.size + 2) 27 #[.int .i64 0, .int .i64 0, .slice none 0 0] by
        unfold Boxes
        rw [Below.heap_setCell _ _ _ (w.heap.size + 2) (by show w.heap.size + 2 ≠ kk; omega)]
        exact HZ9.out)
      have HWS := Lib.hid (HW9.out.setCell (p := ⟨kk, 0, none⟩) (by show w.heap.size ≤ kk; omega) (.slice (some ⟨g, 0, none⟩) (z.length + y.length) cap))
      clear HR9 HA9 HB9 HZ9 HW9
      go_wp2_with fail
      generalize w9.setCell ⟨kk, 0, none⟩ (.slice (some ⟨g, 0, none⟩) (z.length + y.length) cap) = w10 at *
      clear k0 k1 k2 kf lk HK9 HRS HAS HBS
      by_cases h20 : z.length + y.length ≤ 20
      · refine (mw_ok p c (some ⟨g, 0, none⟩) (z ++ y) (z.length + y.length) cap (by simp) _ hr9s (small_cat HM.out HN.out) ((mat_cat HM.out HN.out).2 h20)).mono ?_
        have HV := Lib.hid (fun (α : Type) (b r l o : α) => sk_ok ⟨HM.out, HN.out⟩ ⟨rfl, rfl⟩ h20 b r l o)
        rintro e w11 ⟨⟨v11, us11, rfl, ho11⟩, hb11⟩
        obtain ⟨xa, xc, rfl⟩ := ho11.form
        have HO11 := Lib.hid ho11
        have hs10 := HZS.out.lt
        replace HZS := Lib.hid (HZS.out.step hb11)
        replace HWS := Lib.hid (HWS.out.trans (hb11.mono HWS.out.size))
        have r0 := HZS.out.m0
        have r1 := HZS.out.m1
        have r2 := HZS.out.m2
        have f0 := HZS.out.frozen 0
        have f1 := HZS.out.frozen 1
        have f2 := HZS.out.frozen 2
        have lz := HZS.out.lt
        clear hb11 ho11 hr9s
        go_wp2_with fail
        refine bodyPost_ret (v := .tuple #[.agg #[.int .i64 p, .int .i64 c, .slice xa (z.length + y.length) xc], .int .i64 0]) (by simp [results, Try.results26, go_sem, r0, r1, r2]) rfl ⟨⟨.slice xa (z ++ y).length xc, us11, by rw [HV.out, HV.out, HV.out]; simp, by rw [HV.out]; first | exact ((((HO11.out.setCell3 (p := ⟨w.heap.size + 2, 0, none⟩) (by show w.heap.size + 2 < w10.heap.size; omega) _).setCell3 (p := ⟨w.heap.size + 2, 1, none⟩) (by show w.heap.size + 2 < w10.heap.size; omega) _).setCell3 (p := ⟨w.heap.size + 2, 2, none⟩) (by show w.heap.size + 2 < w10.heap.size; omega) _)).mono3 (by omega) | simpa using ((((HO11.out.setCell3 (p := ⟨w.heap.size + 2, 0, none⟩) (by show w.heap.size + 2 < w10.heap.size; omega) _).setCell3 (p := ⟨w.heap.size + 2, 1, none⟩) (by show w.heap.size + 2 < w10.heap.size; omega) _).setCell3 (p := ⟨w.heap.size + 2, 2, none⟩) (by show w.heap.size + 2 < w10.heap.size; omega) _)).mono3 (by omega)⟩, (((HWS.out.setCell (p := ⟨w.heap.size + 2, 0, none⟩) (by show w.heap.size ≤ w.heap.size + 2; omega) _).setCell (p := ⟨w.heap.size + 2, 1, none⟩) (by show w.heap.size ≤ w.heap.size + 2; omega) _).setCell (p := ⟨w.heap.size + 2, 2, none⟩) (by show w.heap.size ≤ w.heap.size + 2; omega) _)⟩
      · refine (mw_no p c (some ⟨g, 0, none⟩) (z ++ y) (z.length + y.length) cap (by simp) _ hr9s (small_cat HM.out HN.out) (fun k => h20 ((mat_cat HM.out HN.out).1 k))).mono ?_
        have HV := Lib.hid (fun (α : Type) (b r l o : α) => sk_lim ⟨HM.out, HN.out⟩ ⟨rfl, rfl⟩ h20 b r l o)
        rintro e w11 ⟨⟨v11, us11, rfl, ho11⟩, hb11⟩
        obtain ⟨xa, xc, rfl⟩ := ho11.form
        have HO11 := Lib.hid ho11
        have hs10 := HZS.out.lt
        replace HZS := Lib.hid (HZS.out.step hb11)
        replace HWS := Lib.hid (HWS.out.trans (hb11.mono HWS.out.size))
        have r0 := HZS.out.m0
        have r1 := HZS.out.m1
        have r2 := HZS.out.m2
        have f0 := HZS.out.frozen 0
        have f1 := HZS.out.frozen 1
        have f2 := HZS.out.frozen 2
        have lz := HZS.out.lt
        clear hb11 ho11 hr9s
        go_wp2_with fail
        refine bodyPost_ret (v := .tuple #[.agg #[.int .i64 0, .int .i64 0, .slice xa 0 xc], .int .i64 3]) (by simp [results, Try.results26, go_sem, r0, r1, r2]) rfl ⟨⟨.slice xa ([] : List (List Int)).length xc, us11, by rw [HV.out, HV.out, HV.out]; rfl, by rw [HV.out]; exact ((((HO11.out.setCell3 (p := ⟨w.heap.size + 2, 0, none⟩) (by show w.heap.size + 2 < w10.heap.size; omega) _).setCell3 (p := ⟨w.heap.size + 2, 1, none⟩) (by show w.heap.size + 2 < w10.heap.size; omega) _).setCell3 (p := ⟨w.heap.size + 2, 2, none⟩) (by show w.heap.size + 2 < w10.heap.size; omega) _)).mono3 (by omega)⟩, (((HWS.out.setCell (p := ⟨w.heap.size + 2, 0, none⟩) (by show w.heap.size ≤ w.heap.size + 2; omega) _).setCell (p := ⟨w.heap.size + 2, 1, none⟩) (by show w.heap.size ≤ w.heap.size + 2; omega) _).setCell (p := ⟨w.heap.size + 2, 2, none⟩) (by show w.heap.size ≤ w.heap.size + 2; omega) _)⟩)
end Go.Proofs.Ytcebphepfkpklaa

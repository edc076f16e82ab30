/- SolveFor, Combination, IsSpanned: both contracts. -/
import Derived.Test.YtekhjoenejgmaaaSn
import Derived.Test.YtekhjoenejgmaaaSl
import Derived.Test.YtekhjoenejgmaaaTur
namespace Go.Proofs.Ytekhjoenejgmaaa
open Go.RowKit Go.Deep Go.Joins
set_option linter.unusedVariables false

theorem matr_smf {p c : Int} {z : List (List Int)} (h : MatOk p c z) : Small2 z := ⟨by have := h.2.2.1; omega, fun r hr => by have := (h.2.2.2 r hr).1; have := h.2.1.2; omega⟩
theorem turned_good {p : Int} {n : Nat} {z : List (List Int)} (h : GoodM p n z) (hz : z.length ≤ 1000) : GoodM p z.length (turned z n) :=
  ⟨h.prm, hz, by unfold turned; rw [tab_len]; exact h.hn, fun r hr => by
    unfold turned at hr ⊢
    rw [tab_len] at hr
    refine ⟨tab_rlen _ _ _ hr, fun i hi => ?_⟩
    rw [tab_rlen _ _ _ hr] at hi
    rw [tab_at _ _ _ hr hi]
    exact (h.rows i hi).2 r (by rw [(h.rows i hi).1]; exact hr)⟩
/-- The code of a matrix and a list of so many elements. -/
noncomputable def askCode (p c : Int) (z : List (List Int)) (v : List Int) (want : Int) : Int := if tell (MatOk p c z) = true then (if tell (RowOk p want v) = true then 0 else 2) else 1
theorem ask_bad {p c : Int} {z : List (List Int)} {v : List Int} (h : ¬ MatOk p c z) (want : Int) : askCode p c z v want = 1 := by unfold askCode; rw [tell_false h]; rfl
theorem ask_ok {p c : Int} {z : List (List Int)} {v : List Int} {want : Int} (h : MatOk p c z) (k : RowOk p want v) : askCode p c z v want = 0 := by unfold askCode; rw [tell_true h, tell_true k]; rfl
theorem ask_rng {p c : Int} {z : List (List Int)} {v : List Int} {want : Int} (h : MatOk p c z) (k : ¬ RowOk p want v) : askCode p c z v want = 2 := by unfold askCode; rw [tell_true h, tell_false k]; rfl
noncomputable def sfZs (p c : Int) (z : List (List Int)) (v : List Int) : List Int := if tell (MatOk p c z) = true then snL p c.toNat z v else []
noncomputable def sfCode (p c : Int) (z : List (List Int)) (v : List Int) : Int := if tell (MatOk p c z) = true then snCode p c.toNat z v else 1
noncomputable def cbZs (p c : Int) (z : List (List Int)) (v : List Int) : List Int := if tell (MatOk p c z) = true then snL p z.length (turned z c.toNat) v else []
noncomputable def cbCode (p c : Int) (z : List (List Int)) (v : List Int) : Int := if tell (MatOk p c z) = true then snCode p z.length (turned z c.toNat) v else 1
section
variable {p c : Int} {z : List (List Int)} {v : List Int}
theorem sf_bad (h : ¬ MatOk p c z) : sfZs p c z v = [] ∧ sfCode p c z v = 1 := by unfold sfZs sfCode; rw [tell_false h]; exact ⟨rfl, rfl⟩
theorem sf_ok (h : MatOk p c z) : sfZs p c z v = snL p c.toNat z v ∧ sfCode p c z v = snCode p c.toNat z v := by unfold sfZs sfCode; rw [tell_true h]; exact ⟨rfl, rfl⟩
theorem cb_bad (h : ¬ MatOk p c z) : cbZs p c z v = [] ∧ cbCode p c z v = 1 := by unfold cbZs cbCode; rw [tell_false h]; exact ⟨rfl, rfl⟩
theorem cb_ok (h : MatOk p c z) : cbZs p c z v = snL p z.length (turned z c.toNat) v ∧ cbCode p c z v = snCode p z.length (turned z c.toNat) v := by unfold cbZs cbCode; rw [tell_true h]; exact ⟨rfl, rfl⟩
theorem sf_not (h : ¬ (MatOk p c z ∧ RowOk p (z.length : Int) v)) : (askCode p c z v (z.length : Int) = 1 ∨ askCode p c z v (z.length : Int) = 2) ∧ sfZs p c z v = [] ∧ sfCode p c z v = askCode p c z v (z.length : Int) := by
  by_cases hm : MatOk p c z
  · have hr : ¬ RowOk p (z.length : Int) v := fun k => h ⟨hm, k⟩
    have hv : ¬ ValOk p z v := fun k => hr ⟨by have := k.1; omega, k.2⟩
    rw [(sf_ok hm).1, (sf_ok hm).2, (sn_no hv).1, (sn_no hv).2, ask_rng hm hr]
    exact ⟨.inr rfl, rfl, rfl⟩
  · rw [(sf_bad hm).1, (sf_bad hm).2, ask_bad hm]
    exact ⟨.inl rfl, rfl, rfl⟩
theorem cb_not (h : ¬ (MatOk p c z ∧ RowOk p (c : Int) v)) : (askCode p c z v (c : Int) = 1 ∨ askCode p c z v (c : Int) = 2) ∧ cbZs p c z v = [] ∧ cbCode p c z v = askCode p c z v (c : Int) := by
  by_cases hm : MatOk p c z
  · have hr : ¬ RowOk p (c : Int) v := fun k => h ⟨hm, k⟩
    have hv : ¬ ValOk p (turned z c.toNat) v := fun k => hr ⟨by have := k.1; unfold turned at this; rw [tab_len] at this; have := hm.2.1.1; omega, k.2⟩
    rw [(cb_ok hm).1, (cb_ok hm).2, (sn_no hv).1, (sn_no hv).2, ask_rng hm hr]
    exact ⟨.inr rfl, rfl, rfl⟩
  · rw [(cb_bad hm).1, (cb_bad hm).2, ask_bad hm]
    exact ⟨.inl rfl, rfl, rfl⟩
theorem sfZs_len : (sfZs p c z v).length ≤ 1048576 := by
  unfold sfZs
  split
  · next q => exact snL_len (by have := (of_tell q).2.1.2; omega)
  · simp
theorem cbZs_len : (cbZs p c z v).length ≤ 1048576 := by
  unfold cbZs
  split
  · next q => exact snL_len (by have := (of_tell q).2.2.1; omega)
  · simp
end

set_option maxRecDepth 100000 in
set_option maxHeartbeats 1000000 in
theorem l03Combine_any (q0 n ca cv : Nat) (p : Int) (a av : Option Addr) (z : List (List Int)) (v : List Int) (w : World) (hbx : Boxes w q0 31 #[.int .i64 p, .int .i64 ((n : Nat) : Int), .slice a z.length ca]) (hr : Rows2 w a z) (hg : GoodM p n z) (hn : n ≤ 999) (hz : z.length ≤ 999) (hv : Ints w av v) (hl : v.length = n) (he : Elems p v) :
    Calls Try.prog 81 #[.pointer (some ⟨q0, 0, none⟩), .slice av v.length cv] w fun e w' => (∃ u, e = .returned (.tuple #[u, .bool (tell (SolOk p z.length (turned z n) v))]) ∧ OwnI w' w.heap.size u (solL p z.length (turned z n) v)) ∧ Below w.heap.size w w' := by
  have HG := Lib.hid (turned_good hg (by omega))
  have HROW := Lib.hid (fun r (hr : r < z.length) => (hg.rows r hr).1)
  have HR := Lib.hid hr
  have HV := Lib.hid hv
  have HX := Lib.hid hbx
  have HL := Lib.hid hl
  have HE := Lib.hid he
  clear hbx hr hg hv hl he
  go_enter Try.func81, Try.ntmps81
  go_wp2_with fail
  refine (l03Turned_any q0 p n a z ca w HX.out HR.out (by omega) (by omega) HROW.out).mono ?_
  rintro e w1 ⟨⟨va, vc, us, rfl, ho⟩, hb1⟩
  have hbx : Boxes (w1.alloc (.cells #[.int .i64 p, .int .i64 (z.length : Int), .slice va n vc] 31)) w1.heap.size 31 #[.int .i64 p, .int .i64 ((z.length : Nat) : Int), .slice va (turned z n).length vc] := by
    unfold turned; rw [tab_len]; exact World.alloc_heap_new w1 _
  have hb2 := al_b w1 (.cells #[.int .i64 p, .int .i64 (z.length : Int), .slice va n vc] 31)
  have HX2 := Lib.hid hbx
  have HR2 := Lib.hid ((own_rows3 ho).below hb2 (Nat.le_refl _))
  have HV2 := Lib.hid ((HV.out.below hb1 (Nat.le_refl _)).below hb2 (Nat.le_refl _))
  have HB2 := Lib.hid (hb1.trans (hb2.mono hb1.size))
  clear hbx hb2 ho hb1
  go_wp2_with fail
  refine (l03Solve_any w1.heap.size z.length vc cv p va av (turned z n) v _ HX2.out HR2.out HG.out hz HV2.out (by unfold turned; rw [tab_len]; exact HL.out) HE.out).mono ?_
  generalize w1.alloc (.cells #[.int .i64 p, .int .i64 (z.length : Int), .slice va n vc] 31) = w2 at *
  rintro e w3 ⟨⟨u, rfl, hu⟩, hb3⟩
  have HU := Lib.hid (hu.mono HB2.out.size)
  have HB3 := Lib.hid (HB2.out.trans (hb3.mono HB2.out.size))
  clear hu hb3
  go_wp2_with fail
  go_ret2
  exact ⟨⟨_, rfl, HU.out⟩, HB3.out⟩

set_option maxRecDepth 100000 in
set_option maxHeartbeats 1000000 in
theorem asked_true (q0 : Nat) (p c : Int) (a : Option Addr) (z : List (List Int)) (ca : Nat) (av : Option Addr) (v : List Int) (cv : Nat) (w : World) (hbx : Boxes w q0 31 #[.int .i64 p, .int .i64 c, .slice a z.length ca]) (hr : Rows2 w a z) (hl : Lens z) (hv : Ints w av v) (hvl : v.length ≤ 9223372036854775807) :
    Calls Try.prog 80 #[.pointer (some ⟨q0, 0, none⟩), .slice av v.length cv, .bool true] w fun e w' => e = .returned (.int .i64 (askCode p c z v (z.length : Int))) ∧ Quiet w w' := by
  have HX := Lib.hid hbx
  have HR := Lib.hid hr
  have HL := Lib.hid hl
  have HV := Lib.hid hv
  clear hbx hr hl hv
  by_cases hm : MatOk p c z
  case neg =>
    have HF := Lib.hid (tell_false hm)
    have HC := Lib.hid (ask_bad (v := v) hm (z.length : Int))
    clear hm
    go_enter Try.func80, Try.ntmps80
    go_wp2_with fail
    refine (l03Ok_any q0 p c a z ca _ HX.out HR.out HL.out).mono ?_
    rintro e w2 ⟨rfl, hq⟩
    rw [HF.out]
    go_wp2_with fail
    go_ret
    exact ⟨by rw [HC.out]; rfl, hq⟩
  have HT := Lib.hid (tell_true hm)
  have HM := Lib.hid hm
  have hp0 := hm.1.1
  have hp1 := hm.1.2.1
  have hzl := hm.2.2.1
  clear hm
  go_enter Try.func80, Try.ntmps80
  go_wp2_with fail
  refine (l03Ok_any q0 p c a z ca _ HX.out HR.out HL.out).mono ?_
  rintro e w2 ⟨rfl, hq⟩
  rw [HT.out]
  have HQ := Lib.hid hq
  have hx := HX.out.step (quiet_below hq)
  have c0 := hx.m0
  have c1 := hx.m1
  have c2 := hx.m2
  have cl := hx.lt
  have HV2 := Lib.hid (HV.out.below (quiet_below hq) (Nat.le_refl _))
  clear hq hx HX HR HV
  go_wp2_with fail
  refine (l03Row_any p (z.length : Int) av v cv _ HV2.out hvl hp0 hp1).mono ?_
  rintro e w' ⟨rfl, rfl⟩
  by_cases ho : RowOk p (z.length : Int) v
  · have HT2 := Lib.hid (tell_true ho)
    have HC := Lib.hid (ask_ok HM.out ho)
    clear ho
    rw [HT2.out]
    go_wp2_with fail
    go_ret
    exact ⟨by rw [HC.out]; rfl, HQ.out⟩
  · have HT2 := Lib.hid (tell_false ho)
    have HC := Lib.hid (ask_rng HM.out ho)
    clear ho
    rw [HT2.out]
    go_wp2_with fail
    go_ret
    exact ⟨by rw [HC.out]; rfl, HQ.out⟩

set_option maxRecDepth 100000 in
set_option maxHeartbeats 1000000 in
theorem asked_false (q0 : Nat) (p c : Int) (a : Option Addr) (z : List (List Int)) (ca : Nat) (av : Option Addr) (v : List Int) (cv : Nat) (w : World) (hbx : Boxes w q0 31 #[.int .i64 p, .int .i64 c, .slice a z.length ca]) (hr : Rows2 w a z) (hl : Lens z) (hv : Ints w av v) (hvl : v.length ≤ 9223372036854775807) :
    Calls Try.prog 80 #[.pointer (some ⟨q0, 0, none⟩), .slice av v.length cv, .bool false] w fun e w' => e = .returned (.int .i64 (askCode p c z v c)) ∧ Quiet w w' := by
  have HX := Lib.hid hbx
  have HR := Lib.hid hr
  have HL := Lib.hid hl
  have HV := Lib.hid hv
  clear hbx hr hl hv
  by_cases hm : MatOk p c z
  case neg =>
    have HF := Lib.hid (tell_false hm)
    have HC := Lib.hid (ask_bad (v := v) hm c)
    clear hm
    go_enter Try.func80, Try.ntmps80
    go_wp2_with fail
    refine (l03Ok_any q0 p c a z ca _ HX.out HR.out HL.out).mono ?_
    rintro e w2 ⟨rfl, hq⟩
    rw [HF.out]
    go_wp2_with fail
    go_ret
    exact ⟨by rw [HC.out]; rfl, hq⟩
  have HT := Lib.hid (tell_true hm)
  have HM := Lib.hid hm
  have hp0 := hm.1.1
  have hp1 := hm.1.2.1
  have hzl := hm.2.2.1
  clear hm
  go_enter Try.func80, Try.ntmps80
  go_wp2_with fail
  refine (l03Ok_any q0 p c a z ca _ HX.out HR.out HL.out).mono ?_
  rintro e w2 ⟨rfl, hq⟩
  rw [HT.out]
  have HQ := Lib.hid hq
  have hx := HX.out.step (quiet_below hq)
  have c0 := hx.m0
  have c1 := hx.m1
  have c2 := hx.m2
  have cl := hx.lt
  have HV2 := Lib.hid (HV.out.below (quiet_below hq) (Nat.le_refl _))
  clear hq hx HX HR HV
  go_wp2_with fail
  refine (l03Row_any p c av v cv _ HV2.out hvl hp0 hp1).mono ?_
  rintro e w' ⟨rfl, rfl⟩
  by_cases ho : RowOk p c v
  · have HT2 := Lib.hid (tell_true ho)
    have HC := Lib.hid (ask_ok HM.out ho)
    clear ho
    rw [HT2.out]
    go_wp2_with fail
    go_ret
    exact ⟨by rw [HC.out]; rfl, HQ.out⟩
  · have HT2 := Lib.hid (tell_false ho)
    have HC := Lib.hid (ask_rng HM.out ho)
    clear ho
    rw [HT2.out]
    go_wp2_with fail
    go_ret
    exact ⟨by rw [HC.out]; rfl, HQ.out⟩

set_option maxRecDepth 100000 in
set_option maxHeartbeats 1000000 in
theorem implSf_any (p c : Int) (a : Option Addr) (z : List (List Int)) (ca : Nat) (av : Option Addr) (v : List Int) (cv : Nat) (w : World) (hr : Rows2 w a z) (hl : Lens z) (hv : Ints w av v) (hvl : v.length ≤ 9223372036854775807) :
    Calls Try.prog 37 #[.agg #[.int .i64 p, .int .i64 c, .slice a z.length ca], .slice av v.length cv] w (GivesIntsCode w (sfZs p c z v) (sfCode p c z v)) := by
  have hb1 := al_b w (.cells #[.int .i64 p, .int .i64 c, .slice a z.length ca] 31)
  have HX := Lib.hid (show Boxes (w.alloc (.cells #[.int .i64 p, .int .i64 c, .slice a z.length ca] 31)) w.heap.size 31 #[.int .i64 p, .int .i64 c, .slice a z.length ca] from World.alloc_heap_new w _)
  have HR := Lib.hid (hr.below hb1 (Nat.le_refl _))
  have HV := Lib.hid (hv.below hb1 (Nat.le_refl _))
  have HB1 := Lib.hid hb1
  have HL := Lib.hid hl
  clear hr hv hb1 hl
  go_enter Try.func37, Try.ntmps37
  go_wp2_with fail
  refine (implVm_any p c a z ca _ HR.out HL.out).mono ?_
  generalize w.alloc (.cells #[.int .i64 p, .int .i64 c, .slice a z.length ca] 31) = w1 at *
  rintro e w2 ⟨rfl, hb2⟩
  have hx2 := HX.out.step hb2
  have d0 := hx2.m0
  have d1 := hx2.m1
  have d2 := hx2.m2
  have dl := hx2.lt
  have HB2 := Lib.hid (HB1.out.trans (hb2.mono HB1.out.size))
  have HR2 := Lib.hid (HR.out.below hb2 (Nat.le_refl _))
  have HV2 := Lib.hid (HV.out.below hb2 (Nat.le_refl _))
  clear hx2 hb2 HX HR HV HB1
  by_cases hm : MatOk p c z
  case neg =>
    have HT := Lib.hid (tell_false hm)
    have HC := Lib.hid (sf_bad (v := v) hm)
    clear hm
    rw [HT.out]
    go_wp2_with fail
    go_ret2
    exact ⟨⟨_, by rw [HC.out.2]; rfl, by rw [HC.out.1]; exact OwnI.nil _ _⟩, HB2.out⟩
  have HT := Lib.hid (tell_true hm)
  have HC := Lib.hid (sf_ok (v := v) hm)
  have HG := Lib.hid (GoodM.of hm)
  have HS := Lib.hid (matr_smf hm)
  have hn12 : c ≤ 12 := hm.2.1.2
  have hz20 : z.length ≤ 20 := hm.2.2.1
  obtain ⟨n, rfl⟩ : ∃ n : Nat, c = (n : Int) := ⟨c.toNat, by have := hm.2.1.1; omega⟩
  clear hm
  rw [HT.out]
  simp only [Int.toNat_natCast] at HG HC
  have HROW := Lib.hid (fun r (hr : r < z.length) => (HG.out.rows r hr).1)
  go_wp2_with fail
  refine (gridOf_any p n a z ca w2 HR2.out HS.out).mono ?_
  rintro e w3 ⟨⟨v3, us3, rfl, hog⟩, hb3⟩
  obtain ⟨va, vc, rfl⟩ := hog.form
  have HG3 := Lib.hid (grid_of hog)
  have HV3 := Lib.hid (HV2.out.below hb3 (Nat.le_refl _))
  have HB3 := Lib.hid (HB2.out.trans (hb3.mono HB2.out.size))
  clear hog hb3 d0 d1 d2 dl
  go_wp2_with fail
  refine (solution_any p n va vc z av v cv w3 HG.out (by omega) HG3.out HV3.out hvl).mono ?_
  rintro e w5 ⟨⟨u, rfl, hu⟩, hb5⟩
  have HU := Lib.hid (hu.mono HB3.out.size)
  have HB5 := Lib.hid (HB3.out.trans (hb5.mono HB3.out.size))
  clear hu hb5
  go_wp2_with fail
  go_ret2
  exact ⟨⟨_, by rw [HC.out.2]; rfl, by rw [HC.out.1]; exact HU.out⟩, HB5.out⟩

set_option maxRecDepth 100000 in
set_option maxHeartbeats 1000000 in
theorem implCb_any (p c : Int) (a : Option Addr) (z : List (List Int)) (ca : Nat) (av : Option Addr) (v : List Int) (cv : Nat) (w : World) (hr : Rows2 w a z) (hl : Lens z) (hv : Ints w av v) (hvl : v.length ≤ 9223372036854775807) :
    Calls Try.prog 35 #[.agg #[.int .i64 p, .int .i64 c, .slice a z.length ca], .slice av v.length cv] w (GivesIntsCode w (cbZs p c z v) (cbCode p c z v)) := by
  have hb1 := al_b w (.cells #[.int .i64 p, .int .i64 c, .slice a z.length ca] 31)
  have HX := Lib.hid (show Boxes (w.alloc (.cells #[.int .i64 p, .int .i64 c, .slice a z.length ca] 31)) w.heap.size 31 #[.int .i64 p, .int .i64 c, .slice a z.length ca] from World.alloc_heap_new w _)
  have HR := Lib.hid (hr.below hb1 (Nat.le_refl _))
  have HV := Lib.hid (hv.below hb1 (Nat.le_refl _))
  have HB1 := Lib.hid hb1
  have HL := Lib.hid hl
  clear hr hv hb1 hl
  go_enter Try.func35, Try.ntmps35
  go_wp2_with fail
  refine (implVm_any p c a z ca _ HR.out HL.out).mono ?_
  generalize w.alloc (.cells #[.int .i64 p, .int .i64 c, .slice a z.length ca] 31) = w1 at *
  rintro e w2 ⟨rfl, hb2⟩
  have hx2 := HX.out.step hb2
  have d0 := hx2.m0
  have d1 := hx2.m1
  have d2 := hx2.m2
  have dl := hx2.lt
  have HB2 := Lib.hid (HB1.out.trans (hb2.mono HB1.out.size))
  have HR2 := Lib.hid (HR.out.below hb2 (Nat.le_refl _))
  have HV2 := Lib.hid (HV.out.below hb2 (Nat.le_refl _))
  clear hx2 hb2 HX HR HV HB1
  by_cases hm : MatOk p c z
  case neg =>
    have HT := Lib.hid (tell_false hm)
    have HC := Lib.hid (cb_bad (v := v) hm)
    clear hm
    rw [HT.out]
    go_wp2_with fail
    go_ret2
    exact ⟨⟨_, by rw [HC.out.2]; rfl, by rw [HC.out.1]; exact OwnI.nil _ _⟩, HB2.out⟩
  have HT := Lib.hid (tell_true hm)
  have HC := Lib.hid (cb_ok (v := v) hm)
  have HG := Lib.hid (GoodM.of hm)
  have HS := Lib.hid (matr_smf hm)
  have hn12 : c ≤ 12 := hm.2.1.2
  have hz20 : z.length ≤ 20 := hm.2.2.1
  obtain ⟨n, rfl⟩ : ∃ n : Nat, c = (n : Int) := ⟨c.toNat, by have := hm.2.1.1; omega⟩
  clear hm
  rw [HT.out]
  simp only [Int.toNat_natCast] at HG HC
  have HROW := Lib.hid (fun r (hr : r < z.length) => (HG.out.rows r hr).1)
  go_wp2_with fail
  refine (gridOf_any p n a z ca w2 HR2.out HS.out).mono ?_
  rintro e w3 ⟨⟨v3, us3, rfl, hog⟩, hb3⟩
  obtain ⟨va, vc, rfl⟩ := hog.form
  have HG3 := Lib.hid (grid_of hog)
  have HV3 := Lib.hid (HV2.out.below hb3 (Nat.le_refl _))
  have HB3 := Lib.hid (HB2.out.trans (hb3.mono HB2.out.size))
  clear hog hb3 d0 d1 d2 dl
  go_wp2_with fail
  have hcall := transposed_any p n va vc z w3 HG3.out (by omega) (by omega) HROW.out
  refine hcall.mono ?_
  clear hcall
  rintro e w4 ⟨⟨v4, us4, rfl, hog4⟩, hb4⟩
  obtain ⟨ta, tc, rfl⟩ := hog4.form
  have HG4 := Lib.hid (grid_of hog4)
  have HV4 := Lib.hid (HV3.out.below hb4 (Nat.le_refl _))
  have HB4 := Lib.hid (HB3.out.trans (hb4.mono HB3.out.size))
  clear hog4 hb4
  go_wp2_with fail
  refine (solution_any p z.length ta tc (turned z n) av v cv w4 (turned_good HG.out (by omega)) (by omega) HG4.out HV4.out hvl).mono ?_
  rintro e w5 ⟨⟨u, rfl, hu⟩, hb5⟩
  have HU := Lib.hid (hu.mono HB4.out.size)
  have HB5 := Lib.hid (HB4.out.trans (hb5.mono HB4.out.size))
  clear hu hb5
  go_wp2_with fail
  go_ret2
  exact ⟨⟨_, by rw [HC.out.2]; rfl, by rw [HC.out.1]; exact HU.out⟩, HB5.out⟩

set_option maxRecDepth 100000 in
set_option maxHeartbeats 1000000 in
theorem specSf_any (p c : Int) (a : Option Addr) (z : List (List Int)) (ca : Nat) (av : Option Addr) (v : List Int) (cv : Nat) (w : World) (hr : Rows2 w a z) (hl : Lens z) (hv : Ints w av v) (hvl : v.length ≤ 9223372036854775807) :
    Calls Try.prog 36 #[.agg #[.int .i64 p, .int .i64 c, .slice a z.length ca], .slice av v.length cv] w (GivesIntsCode w (sfZs p c z v) (sfCode p c z v)) := by
  have hb1 := al_b w (.cells #[.int .i64 p, .int .i64 c, .slice a z.length ca] 31)
  have HX := Lib.hid (show Boxes (w.alloc (.cells #[.int .i64 p, .int .i64 c, .slice a z.length ca] 31)) w.heap.size 31 #[.int .i64 p, .int .i64 c, .slice a z.length ca] from World.alloc_heap_new w _)
  have HR := Lib.hid (hr.below hb1 (Nat.le_refl _))
  have HV := Lib.hid (hv.below hb1 (Nat.le_refl _))
  have HB1 := Lib.hid hb1
  have HL := Lib.hid hl
  clear hr hv hb1 hl
  go_enter Try.func36, Try.ntmps36
  go_wp2_with fail
  refine (asked_true w.heap.size p c a z ca av v cv _ HX.out HR.out HL.out HV.out hvl).mono ?_
  generalize w.alloc (.cells #[.int .i64 p, .int .i64 c, .slice a z.length ca] 31) = w1 at *
  rintro e w2 ⟨rfl, hq⟩
  have hb2 := quiet_below hq
  have HX2 := Lib.hid (HX.out.step hb2)
  have HB2 := Lib.hid (HB1.out.trans (hb2.mono HB1.out.size))
  have HR2 := Lib.hid (HR.out.below hb2 (Nat.le_refl _))
  have HV2 := Lib.hid (HV.out.below hb2 (Nat.le_refl _))
  have hs2 := HB2.out.size
  clear hb2 hq HX HR HV HB1
  by_cases hm : MatOk p c z ∧ RowOk p (z.length : Int) v
  case neg =>
    have hc : (askCode p c z v (z.length : Int) = 1 ∨ askCode p c z v (z.length : Int) = 2) ∧ sfZs p c z v = [] ∧ sfCode p c z v = askCode p c z v (z.length : Int) := sf_not hm
    have HC := Lib.hid hc.2
    obtain ⟨y, hy⟩ : ∃ y, askCode p c z v (z.length : Int) = y := ⟨_, rfl⟩
    rw [hy] at hc HC ⊢
    have t1 : (y != 0) = true := by rcases hc.1 with e | e <;> rw [e] <;> rfl
    have t2 : ¬ y = 0 := by rcases hc.1 with e | e <;> omega
    clear hm hc hy
    go_wp2_with fail
    go_ret2
    refine ⟨⟨_, by rw [HC.out.2]; rfl, ?_⟩, HB2.out.alloc hs2 _⟩
    rw [HC.out.1]
    exact World.ownsRow_made w2 #[] 0 hs2 (by unfold maxLen; omega) rfl
  have HA := Lib.hid (ask_ok hm.1 hm.2)
  have HROK := Lib.hid hm.2
  have HC := Lib.hid (sf_ok (v := v) hm.1)
  have HG := Lib.hid (GoodM.of hm.1)
  have hn12 : c ≤ 12 := hm.1.2.1.2
  have hz20 : z.length ≤ 20 := hm.1.2.2.1
  obtain ⟨n, rfl⟩ : ∃ n : Nat, c = (n : Int) := ⟨c.toNat, by have := hm.1.2.1.1; omega⟩
  clear hm
  rw [HA.out]
  simp only [Int.toNat_natCast] at HG HC
  go_wp2_with fail
  refine (l03Solve_any w.heap.size n ca cv p a av z v w2 HX2.out HR2.out HG.out (by omega) HV2.out (by have := HROK.out.1; omega) HROK.out.2).mono ?_
  rintro e w3 ⟨⟨u, rfl, hu⟩, hb3⟩
  have HU := Lib.hid (hu.mono hs2)
  have HB3 := Lib.hid (HB2.out.trans (hb3.mono hs2))
  have hs3 := HB3.out.size
  have HSN := Lib.hid (sn_yes (n := n) (show ValOk p z v from ⟨by have := HROK.out.1; omega, HROK.out.2⟩))
  clear hu hb3
  by_cases hs : SolOk p n z v
  · have HT := Lib.hid (tell_true hs)
    have HQ := Lib.hid (sol_yes hs)
    clear hs
    rw [HT.out]
    rw [HQ.out.1] at HU
    go_wp2_with fail
    go_ret2
    exact ⟨⟨_, by rw [HC.out.2, HSN.out.2, HQ.out.2]; rfl, by rw [HC.out.1, HSN.out.1, HQ.out.1]; exact HU.out⟩, HB3.out⟩
  · have HT := Lib.hid (tell_false hs)
    have HQ := Lib.hid (sol_no hs)
    clear hs
    rw [HT.out]
    go_wp2_with fail
    go_ret2
    refine ⟨⟨_, by rw [HC.out.2, HSN.out.2, HQ.out.2]; rfl, ?_⟩, HB3.out.alloc hs3 _⟩
    rw [HC.out.1, HSN.out.1, HQ.out.1]
    exact World.ownsRow_made w3 #[] 0 hs3 (by unfold maxLen; omega) rfl

set_option maxRecDepth 100000 in
set_option maxHeartbeats 1000000 in
theorem specCb_any (p c : Int) (a : Option Addr) (z : List (List Int)) (ca : Nat) (av : Option Addr) (v : List Int) (cv : Nat) (w : World) (hr : Rows2 w a z) (hl : Lens z) (hv : Ints w av v) (hvl : v.length ≤ 9223372036854775807) :
    Calls Try.prog 34 #[.agg #[.int .i64 p, .int .i64 c, .slice a z.length ca], .slice av v.length cv] w (GivesIntsCode w (cbZs p c z v) (cbCode p c z v)) := by
  have hb1 := al_b w (.cells #[.int .i64 p, .int .i64 c, .slice a z.length ca] 31)
  have HX := Lib.hid (show Boxes (w.alloc (.cells #[.int .i64 p, .int .i64 c, .slice a z.length ca] 31)) w.heap.size 31 #[.int .i64 p, .int .i64 c, .slice a z.length ca] from World.alloc_heap_new w _)
  have HR := Lib.hid (hr.below hb1 (Nat.le_refl _))
  have HV := Lib.hid (hv.below hb1 (Nat.le_refl _))
  have HB1 := Lib.hid hb1
  have HL := Lib.hid hl
  clear hr hv hb1 hl
  go_enter Try.func34, Try.ntmps34
  go_wp2_with fail
  refine (asked_false w.heap.size p c a z ca av v cv _ HX.out HR.out HL.out HV.out hvl).mono ?_
  generalize w.alloc (.cells #[.int .i64 p, .int .i64 c, .slice a z.length ca] 31) = w1 at *
  rintro e w2 ⟨rfl, hq⟩
  have hb2 := quiet_below hq
  have HX2 := Lib.hid (HX.out.step hb2)
  have HB2 := Lib.hid (HB1.out.trans (hb2.mono HB1.out.size))
  have HR2 := Lib.hid (HR.out.below hb2 (Nat.le_refl _))
  have HV2 := Lib.hid (HV.out.below hb2 (Nat.le_refl _))
  have hs2 := HB2.out.size
  clear hb2 hq HX HR HV HB1
  by_cases hm : MatOk p c z ∧ RowOk p (c : Int) v
  case neg =>
    have hc : (askCode p c z v (c : Int) = 1 ∨ askCode p c z v (c : Int) = 2) ∧ cbZs p c z v = [] ∧ cbCode p c z v = askCode p c z v (c : Int) := cb_not hm
    have HC := Lib.hid hc.2
    obtain ⟨y, hy⟩ : ∃ y, askCode p c z v (c : Int) = y := ⟨_, rfl⟩
    rw [hy] at hc HC ⊢
    have t1 : (y != 0) = true := by rcases hc.1 with e | e <;> rw [e] <;> rfl
    have t2 : ¬ y = 0 := by rcases hc.1 with e | e <;> omega
    clear hm hc hy
    go_wp2_with fail
    go_ret2
    refine ⟨⟨_, by rw [HC.out.2]; rfl, ?_⟩, HB2.out.alloc hs2 _⟩
    rw [HC.out.1]
    exact World.ownsRow_made w2 #[] 0 hs2 (by unfold maxLen; omega) rfl
  have HA := Lib.hid (ask_ok hm.1 hm.2)
  have HROK := Lib.hid hm.2
  have HC := Lib.hid (cb_ok (v := v) hm.1)
  have HG := Lib.hid (GoodM.of hm.1)
  have hn12 : c ≤ 12 := hm.1.2.1.2
  have hz20 : z.length ≤ 20 := hm.1.2.2.1
  obtain ⟨n, rfl⟩ : ∃ n : Nat, c = (n : Int) := ⟨c.toNat, by have := hm.1.2.1.1; omega⟩
  clear hm
  rw [HA.out]
  simp only [Int.toNat_natCast] at HG HC
  go_wp2_with fail
  refine (l03Combine_any w.heap.size n ca cv p a av z v w2 HX2.out HR2.out HG.out (by omega) (by omega) HV2.out (by have := HROK.out.1; omega) HROK.out.2).mono ?_
  rintro e w3 ⟨⟨u, rfl, hu⟩, hb3⟩
  have HU := Lib.hid (hu.mono hs2)
  have HB3 := Lib.hid (HB2.out.trans (hb3.mono hs2))
  have hs3 := HB3.out.size
  have HSN := Lib.hid (sn_yes (n := z.length) (show ValOk p (turned z n) v from ⟨by unfold turned; rw [tab_len]; have := HROK.out.1; omega, HROK.out.2⟩))
  clear hu hb3
  by_cases hs : SolOk p z.length (turned z n) v
  · have HT := Lib.hid (tell_true hs)
    have HQ := Lib.hid (sol_yes hs)
    clear hs
    rw [HT.out]
    rw [HQ.out.1] at HU
    go_wp2_with fail
    go_ret2
    exact ⟨⟨_, by rw [HC.out.2, HSN.out.2, HQ.out.2]; rfl, by rw [HC.out.1, HSN.out.1, HQ.out.1]; exact HU.out⟩, HB3.out⟩
  · have HT := Lib.hid (tell_false hs)
    have HQ := Lib.hid (sol_no hs)
    clear hs
    rw [HT.out]
    go_wp2_with fail
    go_ret2
    refine ⟨⟨_, by rw [HC.out.2, HSN.out.2, HQ.out.2]; rfl, ?_⟩, HB3.out.alloc hs3 _⟩
    rw [HC.out.1, HSN.out.1, HQ.out.1]
    exact World.ownsRow_made w3 #[] 0 hs3 (by unfold maxLen; omega) rfl
end Go.Proofs.Ytekhjoenejgmaaa

/- SolveFor, Combination, IsSpanned: both contracts. -/
import Derived.Test.YtpifgapogbbcnaaSn
import Derived.Test.YtpifgapogbbcnaaSl
import Derived.Test.YtpifgapogbbcnaaTur
namespace Go.Proofs.Ytpifgapogbbcnaa
open Go.RowKit Go.Deep Go.Joins
set_option linter.unusedVariables false

theorem matr_smf {p c : Int} {z : List (List Int)} (h : MatOk p c z) : Small2 z := ⟨by have := h.2.2.1; omega, fun r hr => by have := (h.2.2.2 r hr).1; have := h.2.1.2; omega⟩
theorem turned_good {p : Int} {n : Nat} {z : List (List Int)} (h : GoodM p n z) (hz : z.length ≤ 1000) : GoodM p z.length (turned z n) :=
  ⟨h.prm, hz, by unfold turned; rw [tab_len]; exact h.hn, fun r hr => by
    unfold turned at hr ⊢
    rw [tab_len] at hr
    refine ⟨tab_rlen _ _ _ hr, fun i hi => ?_⟩
    rw [tab_rlen _ _ _ hr] at hi
    rw [tab_at _ _ _ hr hi]
    exact (h.rows i hi).2 r (by rw [(h.rows i hi).1]; exact hr)⟩
/-- The code of a matrix and a list of so many elements. -/
noncomputable def askCode (p c : Int) (z : List (List Int)) (v : List Int) (want : Int) : Int := if tell (MatOk p c z) = true then (if tell (RowOk p want v) = true then 0 else 2) else 1
theorem ask_bad {p c : Int} {z : List (List Int)} {v : List Int} (h : ¬ MatOk p c z) (want : Int) : askCode p c z v want = 1 := by unfold askCode; rw [tell_false h]; rfl
theorem ask_ok {p c : Int} {z : List (List Int)} {v : List Int} {want : Int} (h : MatOk p c z) (k : RowOk p want v) : askCode p c z v want = 0 := by unfold askCode; rw [tell_true h, tell_true k]; rfl
theorem ask_rng {p c : Int} {z : List (List Int)} {v : List Int} {want : Int} (h : MatOk p c z) (k : ¬ RowOk p want v) : askCode p c z v want = 2 := by unfold askCode; rw [tell_true h, tell_false k]; rfl
noncomputable def sfZs (p c : Int) (z : List (List Int)) (v : List Int) : List Int := if tell (MatOk p c z) = true then snL p c.toNat z v else []
noncomputable def sfCode (p c : Int) (z : List (List Int)) (v : List Int) : Int := if tell (MatOk p c z) = true then snCode p c.toNat z v else 1
noncomputable def cbZs (p c : Int) (z : List (List Int)) (v : List Int) : List Int := if tell (MatOk p c z) = true then snL p z.length (turned z c.toNat) v else []
noncomputable def cbCode (p c : Int) (z : List (List Int)) (v : List Int) : Int := if tell (MatOk p c z) = true then snCode p z.length (turned z c.toNat) v else 1
section
variable {p c : Int} {z : List (List Int)} {v : List Int}
theorem sf_bad (h : ¬ MatOk p c z) : sfZs p c z v = [] ∧ sfCode p c z v = 1 := by unfold sfZs sfCode; rw [tell_false h]; exact ⟨rfl, rfl⟩
theorem sf_ok (h : MatOk p c z) : sfZs p c z v = snL p c.toNat z v ∧ sfCode p c z v = snCode p c.toNat z v := by unfold sfZs sfCode; rw [tell_true h]; exact ⟨rfl, rfl⟩
theorem cb_bad (h : ¬ MatOk p c z) : cbZs p c z v = [] ∧ cbCode p c z v = 1 := by unfold cbZs cbCode; rw [tell_false h]; exact ⟨rfl, rfl⟩
theorem cb_ok (h : MatOk p c z) : cbZs p c z v = snL p z.length (turned z c.toNat) v ∧ cbCode p c z v = snCode p z.length (turned z c.toNat) v := by unfold cbZs cbCode; rw [tell_true h]; exact ⟨rfl, rfl⟩
theorem sf_not (h : ¬ (MatOk p c z ∧ RowOk p (z.length : Int) v)) : (askCode p c z v (z.length : Int) = 1 ∨ askCode p c z v (z.length : Int) = 2) ∧ sfZs p c z v = [] ∧ sfCode p c z v = askCode p c z v (z.length : Int) := by
  by_cases hm : MatOk p c z
  · have hr : ¬ RowOk p (z.length : Int) v := fun k => h ⟨hm, k⟩
    have hv : ¬ ValOk p z v := fun k => hr ⟨by have := k.1; omega, k.2⟩
    rw [(sf_ok hm).1, (sf_ok hm).2, (sn_no hv).1, (sn_no hv).2, ask_rng hm hr]
    exact ⟨.inr rfl, rfl, rfl⟩
  · rw [(sf_bad hm).1, (sf_bad hm).2, ask_bad hm]
    exact ⟨.inl rfl, rfl, rfl⟩
theorem cb_not (h : ¬ (MatOk p c z ∧ RowOk p (c : Int) v)) : (askCode p c z v (c : Int) = 1 ∨ askCode p c z v (c : Int) = 2) ∧ cbZs p c z v = [] ∧ cbCode p c z v = askCode p c z v (c : Int) := by
  by_cases hm : MatOk p c z
  · have hr : ¬ RowOk p (c : Int) v := fun k => h ⟨hm, k⟩
    have hv : ¬ ValOk p (turned z c.toNat) v := fun k => hr ⟨by have := k.1; unfold turned at this; rw [tab_len] at this; have := hm.2.1.1; omega, k.2⟩
    rw [(cb_ok hm).1, (cb_ok hm).2, (sn_no hv).1, (sn_no hv).2, ask_rng hm hr]
    exact ⟨.inr rfl, rfl, rfl⟩
  · rw [(cb_bad hm).1, (cb_bad hm).2, ask_bad hm]
    exact ⟨.inl rfl, rfl, rfl⟩
theorem sfZs_len : (sfZs p c z v).length ≤ 1048576 := by
  unfold sfZs
  split
  · next q => exact snL_len (by have := (of_tell q).2.1.2; omega)
  · simp
theorem cbZs_len : (cbZs p c z v).length ≤ 1048576 := by
  unfold cbZs
  split
  · next q => exact snL_len (by have := (of_tell q).2.2.1; omega)
  · simp
end

set_option maxRecDepth 100000 in
set_option maxHeartbeats 1000000 in
theorem implSf_any (p c : Int) (a : Option Addr) (z : List (List Int)) (ca : Nat) (av : Option Addr) (v : List Int) (cv : Nat) (w : World) (hr : Rows2 w a z) (hl : Lens z) (hv : Ints w av v) (hvl : v.length ≤ 9223372036854775807) :
    Calls Try.prog 11 #[.agg #[.int .i64 p, .int .i64 c, .slice a z.length ca], .slice av v.length cv] w (GivesIntsCode w (sfZs p c z v) (sfCode p c z v)) := by
  have hb1 := al_b w (.cells #[.int .i64 p, .int .i64 c, .slice a z.length ca] 26)
  have HX := Lib.hid (show Boxes (w.alloc (.cells #[.int .i64 p, .int .i64 c, .slice a z.length ca] 26)) w.heap.size 26 #[.int .i64 p, .int .i64 c, .slice a z.length ca] from World.alloc_heap_new w _)
  have HR := Lib.hid (hr.below hb1 (Nat.le_refl _))
  have HV := Lib.hid (hv.below hb1 (Nat.le_refl _))
  have HB1 := Lib.hid hb1
  have HL := Lib.hid hl
  clear hr hv hb1 hl
  go_enter Try.func11, Try.ntmps11
  go_wp2_with fail
  refine (implVm_any p c a z ca _ HR.out HL.out).mono ?_
  generalize w.alloc (.cells #[.int .i64 p, .int .i64 c, .slice a z.length ca] 26) = w1 at *
  rintro e w2 ⟨rfl, hb2⟩
  have hx2 := HX.out.step hb2
  have d0 := hx2.m0
  have d1 := hx2.m1
  have d2 := hx2.m2
  have dl := hx2.lt
  have HB2 := Lib.hid (HB1.out.trans (hb2.mono HB1.out.size))
  have HR2 := Lib.hid (HR.out.below hb2 (Nat.le_refl _))
  have HV2 := Lib.hid (HV.out.below hb2 (Nat.le_refl _))
  clear hx2 hb2 HX HR HV HB1
  by_cases hm : MatOk p c z
  case neg =>
    have HT := Lib.hid (tell_false hm)
    have HC := Lib.hid (sf_bad (v := v) hm)
    clear hm
    rw [HT.out]
    go_wp2_with fail
    go_ret2
    exact ⟨⟨_, by rw [HC.out.2]; rfl, by rw [HC.out.1]; exact OwnI.nil _ _⟩, HB2.out⟩
  have HT := Lib.hid (tell_true hm)
  have HC := Lib.hid (sf_ok (v := v) hm)
  have HG := Lib.hid (GoodM.of hm)
  have HS := Lib.hid (matr_smf hm)
  have hn12 : c ≤ 12 := hm.2.1.2
  have hz20 : z.length ≤ 20 := hm.2.2.1
  obtain ⟨n, rfl⟩ : ∃ n : Nat, c = (n : Int) := ⟨c.toNat, by have := hm.2.1.1; omega⟩
  clear hm
  rw [HT.out]
  simp only [Int.toNat_natCast] at HG HC
  have HROW := Lib.hid (fun r (hr : r < z.length) => (HG.out.rows r hr).1)
  go_wp2_with fail
  refine (gridOf_any p n a z ca w2 HR2.out HS.out).mono ?_
  rintro e w3 ⟨⟨v3, us3, rfl, hog⟩, hb3⟩
  obtain ⟨va, vc, rfl⟩ := hog.form
  have HG3 := Lib.hid (grid_of hog)
  have HV3 := Lib.hid (HV2.out.below hb3 (Nat.le_refl _))
  have HB3 := Lib.hid (HB2.out.trans (hb3.mono HB2.out.size))
  clear hog hb3 d0 d1 d2 dl
  go_wp2_with fail
  refine (solution_any p n va vc z av v cv w3 HG.out (by omega) HG3.out HV3.out hvl).mono ?_
  rintro e w5 ⟨⟨u, rfl, hu⟩, hb5⟩
  have HU := Lib.hid (hu.mono HB3.out.size)
  have HB5 := Lib.hid (HB3.out.trans (hb5.mono HB3.out.size))
  clear hu hb5
  go_wp2_with fail
  go_ret2
  exact ⟨⟨_, by rw [HC.out.2]; rfl, by rw [HC.out.1]; exact HU.out⟩, HB5.out⟩

set_option maxRecDepth 100000 in
set_option maxHeartbeats 1000000 in
theorem implCb_any (p c : Int) (a : Option Addr) (z : List (List Int)) (ca : Nat) (av : Option Addr) (v : List Int) (cv : Nat) (w : World) (hr : Rows2 w a z) (hl : Lens z) (hv : Ints w av v) (hvl : v.length ≤ 9223372036854775807) :
    Calls Try.prog 9 #[.agg #[.int .i64 p, .int .i64 c, .slice a z.length ca], .slice av v.length cv] w (GivesIntsCode w (cbZs p c z v) (cbCode p c z v)) := by
  have hb1 := al_b w (.cells #[.int .i64 p, .int .i64 c, .slice a z.length ca] 26)
  have HX := Lib.hid (show Boxes (w.alloc (.cells #[.int .i64 p, .int .i64 c, .slice a z.length ca] 26)) w.heap.size 26 #[.int .i64 p, .int .i64 c, .slice a z.length ca] from World.alloc_heap_new w _)
  have HR := Lib.hid (hr.below hb1 (Nat.le_refl _))
  have HV := Lib.hid (hv.below hb1 (Nat.le_refl _))
  have HB1 := Lib.hid hb1
  have HL := Lib.hid hl
  clear hr hv hb1 hl
  go_enter Try.func9, Try.ntmps9
  go_wp2_with fail
  refine (implVm_any p c a z ca _ HR.out HL.out).mono ?_
  generalize w.alloc (.cells #[.int .i64 p, .int .i64 c, .slice a z.length ca] 26) = w1 at *
  rintro e w2 ⟨rfl, hb2⟩
  have hx2 := HX.out.step hb2
  have d0 := hx2.m0
  have d1 := hx2.m1
  have d2 := hx2.m2
  have dl := hx2.lt
  have HB2 := Lib.hid (HB1.out.trans (hb2.mono HB1.out.size))
  have HR2 := Lib.hid (HR.out.below hb2 (Nat.le_refl _))
  have HV2 := Lib.hid (HV.out.below hb2 (Nat.le_refl _))
  clear hx2 hb2 HX HR HV HB1
  by_cases hm : MatOk p c z
  case neg =>
    have HT := Lib.hid (tell_false hm)
    have HC := Lib.hid (cb_bad (v := v) hm)
    clear hm
    rw [HT.out]
    go_wp2_with fail
    go_ret2
    exact ⟨⟨_, by rw [HC.out.2]; rfl, by rw [HC.out.1]; exact OwnI.nil _ _⟩, HB2.out⟩
  have HT := Lib.hid (tell_true hm)
  have HC := Lib.hid (cb_ok (v := v) hm)
  have HG := Lib.hid (GoodM.of hm)
  have HS := Lib.hid (matr_smf hm)
  have hn12 : c ≤ 12 := hm.2.1.2
  have hz20 : z.length ≤ 20 := hm.2.2.1
  obtain ⟨n, rfl⟩ : ∃ n : Nat, c = (n : Int) := ⟨c.toNat, by have := hm.2.1.1; omega⟩
  clear hm
  rw [HT.out]
  simp only [Int.toNat_natCast] at HG HC
  have HROW := Lib.hid (fun r (hr : r < z.length) => (HG.out.rows r hr).1)
  go_wp2_with fail
  refine (gridOf_any p n a z ca w2 HR2.out HS.out).mono ?_
  rintro e w3 ⟨⟨v3, us3, rfl, hog⟩, hb3⟩
  obtain ⟨va, vc, rfl⟩ := hog.form
  have HG3 := Lib.hid (grid_of hog)
  have HV3 := Lib.hid (HV2.out.below hb3 (Nat.le_refl _))
  have HB3 := Lib.hid (HB2.out.trans (hb3.mono HB2.out.size))
  clear hog hb3 d0 d1 d2 dl
  go_wp2_with fail
  have hcall := transposed_any p n va vc z w3 HG3.out (by omega) (by omega) HROW.out
  refine hcall.mono ?_
  clear hcall
  rintro e w4 ⟨⟨v4, us4, rfl, hog4⟩, hb4⟩
  obtain ⟨ta, tc, rfl⟩ := hog4.form
  have HG4 := Lib.hid (grid_of hog4)
  have HV4 := Lib.hid (HV3.out.below hb4 (Nat.le_refl _))
  have HB4 := Lib.hid (HB3.out.trans (hb4.mono HB3.out.size))
  clear hog4 hb4
  go_wp2_with fail
  refine (solution_any p z.length ta tc (turned z n) av v cv w4 (turned_good HG.out (by omega)) (by omega) HG4.out HV4.out hvl).mono ?_
  rintro e w5 ⟨⟨u, rfl, hu⟩, hb5⟩
  have HU := Lib.hid (hu.mono HB4.out.size)
  have HB5 := Lib.hid (HB4.out.trans (hb5.mono HB4.out.size))
  clear hu hb5
  go_wp2_with fail
  go_ret2
  exact ⟨⟨_, by rw [HC.out.2]; rfl, by rw [HC.out.1]; exact HU.out⟩, HB5.out⟩

end Go.Proofs.Ytpifgapogbbcnaa

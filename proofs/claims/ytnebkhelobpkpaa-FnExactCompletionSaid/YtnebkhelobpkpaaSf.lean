/- SolveFor, Combination, IsSpanned: both contracts. -/
import Derived.Test.YtnebkhelobpkpaaSn
import Derived.Test.YtnebkhelobpkpaaSl
import Derived.Test.YtnebkhelobpkpaaTur
namespace Go.Proofs.Ytnebkhelobpkpaa
open Go.RowKit Go.Deep Go.Joins
set_option linter.unusedVariables false

theorem matr_smf {p c : Int} {z : List (List Int)} (h : MatOk p c z) : Small2 z := ⟨by have := h.2.2.1; omega, fun r hr => by have := (h.2.2.2 r hr).1; have := h.2.1.2; omega⟩
theorem turned_good {p : Int} {n : Nat} {z : List (List Int)} (h : GoodM p n z) (hz : z.length ≤ 1000) : GoodM p z.length (turned z n) :=
  ⟨h.prm, hz, by unfold turned; rw [tab_len]; exact h.hn, fun r hr => by
    unfold turned at hr ⊢
    rw [tab_len] at hr
    refine ⟨tab_rlen _ _ _ hr, fun i hi => ?_⟩
    rw [tab_rlen _ _ _ hr] at hi
    rw [tab_at _ _ _ hr hi]
    exact (h.rows i hi).2 r (by rw [(h.rows i hi).1]; exact hr)⟩
/-- The code of a matrix and a list of so many elements. -/
noncomputable def askCode (p c : Int) (z : List (List Int)) (v : List Int) (want : Int) : Int := if tell (MatOk p c z) = true then (if tell (RowOk p want v) = true then 0 else 2) else 1
theorem ask_bad {p c : Int} {z : List (List Int)} {v : List Int} (h : ¬ MatOk p c z) (want : Int) : askCode p c z v want = 1 := by unfold askCode; rw [tell_false h]; rfl
theorem ask_ok {p c : Int} {z : List (List Int)} {v : List Int} {want : Int} (h : MatOk p c z) (k : RowOk p want v) : askCode p c z v want = 0 := by unfold askCode; rw [tell_true h, tell_true k]; rfl
theorem ask_rng {p c : Int} {z : List (List Int)} {v : List Int} {want : Int} (h : MatOk p c z) (k : ¬ RowOk p want v) : askCode p c z v want = 2 := by unfold askCode; rw [tell_true h, tell_false k]; rfl
noncomputable def sfZs (p c : Int) (z : List (List Int)) (v : List Int) : List Int := if tell (MatOk p c z) = true then snL p c.toNat z v else []
noncomputable def sfCode (p c : Int) (z : List (List Int)) (v : List Int) : Int := if tell (MatOk p c z) = true then snCode p c.toNat z v else 1
noncomputable def cbZs (p c : Int) (z : List (List Int)) (v : List Int) : List Int := if tell (MatOk p c z) = true then snL p z.length (turned z c.toNat) v else []
noncomputable def cbCode (p c : Int) (z : List (List Int)) (v : List Int) : Int := if tell (MatOk p c z) = true then snCode p z.length (turned z c.toNat) v else 1
section
variable {p c : Int} {z : List (List Int)} {v : List Int}
theorem sf_bad (h : ¬ MatOk p c z) : sfZs p c z v = [] ∧ sfCode p c z v = 1 := by unfold sfZs sfCode; rw [tell_false h]; exact ⟨rfl, rfl⟩
theorem sf_ok (h : MatOk p c z) : sfZs p c z v = snL p c.toNat z v ∧ sfCode p c z v = snCode p c.toNat z v := by unfold sfZs sfCode; rw [tell_true h]; exact ⟨rfl, rfl⟩
theorem cb_bad (h : ¬ MatOk p c z) : cbZs p c z v = [] ∧ cbCode p c z v = 1 := by unfold cbZs cbCode; rw [tell_false h]; exact ⟨rfl, rfl⟩
theorem cb_ok (h : MatOk p c z) : cbZs p c z v = snL p z.length (turned z c.toNat) v ∧ cbCode p c z v = snCode p z.length (turned z c.toNat) v := by unfold cbZs cbCode; rw [tell_true h]; exact ⟨rfl, rfl⟩
theorem sf_not (h : ¬ (MatOk p c z ∧ RowOk p (z.length : Int) v)) : (askCode p c z v (z.length : Int) = 1 ∨ askCode p c z v (z.length : Int) = 2) ∧ sfZs p c z v = [] ∧ sfCode p c z v = askCode p c z v (z.length : Int) := by
  by_cases hm : MatOk p c z
  · have hr : ¬ RowOk p (z.length : Int) v := fun k => h ⟨hm, k⟩
    have hv : ¬ ValOk p z v := fun k => hr ⟨by have := k.1; omega, k.2⟩
    rw [(sf_ok hm).1, (sf_ok hm).2, (sn_no hv).1, (sn_no hv).2, ask_rng hm hr]
    exact ⟨.inr rfl, rfl, rfl⟩
  · rw [(sf_bad hm).1, (sf_bad hm).2, ask_bad hm]
    exact ⟨.inl rfl, rfl, rfl⟩
theorem cb_not (h : ¬ (MatOk p c z ∧ RowOk p (c : Int) v)) : (askCode p c z v (c : Int) = 1 ∨ askCode p c z v (c : Int) = 2) ∧ cbZs p c z v = [] ∧ cbCode p c z v = askCode p c z v (c : Int) := by
  by_cases hm : MatOk p c z
  · have hr : ¬ RowOk p (c : Int) v := fun k => h ⟨hm, k⟩
    have hv : ¬ ValOk p (turned z c.toNat) v := fun k => hr ⟨by have := k.1; unfold turned at this; rw [tab_len] at this; have := hm.2.1.1; omega, k.2⟩
    rw [(cb_ok hm).1, (cb_ok hm).2, (sn_no hv).1, (sn_no hv).2, ask_rng hm hr]
    exact ⟨.inr rfl, rfl, rfl⟩
  · rw [(cb_bad hm).1, (cb_bad hm).2, ask_bad hm]
    exact ⟨.inl rfl, rfl, rfl⟩
theorem sfZs_len : (sfZs p c z v).length ≤ 1048576 := by
  unfold sfZs
  split
  · next q => exact snL_len (by have := (of_tell q).2.1.2; omega)
  · simp
theorem cbZs_len : (cbZs p c z v).length ≤ 1048576 := by
  unfold cbZs
  split
  · next q => exact snL_len (by have := (of_tell q).2.2.1; omega)
  · simp
end

set_option maxRecDepth 100000 in
set_option maxHeartbeats 1000000 in
theorem l03Combine_any (q0 n ca cv : Nat) (p : Int) (a av : Option Addr) (z : List (List Int)) (v : List Int) (w : World) (hbx : Boxes w q0 46 #[.int .i64 p, .int .i64 ((n : Nat) : Int), .slice a z.length ca]) (hr : Rows2 w a z) (hg : GoodM p n z) (hn : n ≤ 999) (hz : z.length ≤ 999) (hv : Ints w av v) (hl : v.length = n) (he : Elems p v) :
    Calls Try.prog 147 #[.pointer (some ⟨q0, 0, none⟩), .slice av v.length cv] w fun e w' => (∃ u, e = .returned (.tuple #[u, .bool (tell (SolOk p z.length (turned z n) v))]) ∧ OwnI w' w.heap.size u (solL p z.length (turned z n) v)) ∧ Below w.heap.size w w' := by
  have HG := Lib.hid (turned_good hg (by omega))
  have HROW := Lib.hid (fun r (hr : r < z.length) => (hg.rows r hr).1)
  have HR := Lib.hid hr
  have HV := Lib.hid hv
  have HX := Lib.hid hbx
  have HL := Lib.hid hl
  have HE := Lib.hid he
  clear hbx hr hg hv hl he
  go_enter Try.func147, Try.ntmps147
  go_wp2_with fail
  refine (l03Turned_any q0 p n a z ca w HX.out HR.out (by omega) (by omega) HROW.out).mono ?_
  rintro e w1 ⟨⟨va, vc, us, rfl, ho⟩, hb1⟩
  have hbx : Boxes (w1.alloc (.cells #[.int .i64 p, .int .i64 (z.length : Int), .slice va n vc] 46)) w1.heap.size 46 #[.int .i64 p, .int .i64 ((z.length : Nat) : Int), .slice va (turned z n).length vc] := by
    unfold turned; rw [tab_len]; exact World.alloc_heap_new w1 _
  have hb2 := al_b w1 (.cells #[.int .i64 p, .int .i64 (z.length : Int), .slice va n vc] 46)
  have HX2 := Lib.hid hbx
  have HR2 := Lib.hid ((own_rows3 ho).below hb2 (Nat.le_refl _))
  have HV2 := Lib.hid ((HV.out.below hb1 (Nat.le_refl _)).below hb2 (Nat.le_refl _))
  have HB2 := Lib.hid (hb1.trans (hb2.mono hb1.size))
  clear hbx hb2 ho hb1
  go_wp2_with fail
  refine (l03Solve_any w1.heap.size z.length vc cv p va av (turned z n) v _ HX2.out HR2.out HG.out hz HV2.out (by unfold turned; rw [tab_len]; exact HL.out) HE.out).mono ?_
  generalize w1.alloc (.cells #[.int .i64 p, .int .i64 (z.length : Int), .slice va n vc] 46) = w2 at *
  rintro e w3 ⟨⟨u, rfl, hu⟩, hb3⟩
  have HU := Lib.hid (hu.mono HB2.out.size)
  have HB3 := Lib.hid (HB2.out.trans (hb3.mono HB2.out.size))
  clear hu hb3
  go_wp2_with fail
  go_ret2
  exact ⟨⟨_, rfl, HU.out⟩, HB3.out⟩

end Go.Proofs.Ytnebkhelobpkpaa

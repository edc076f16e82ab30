/- solution of the program. -/
import Derived.Test.YtnebkhelobpkpaaWc
import Derived.Test.YtnebkhelobpkpaaRd5
namespace Go.Proofs.Ytnebkhelobpkpaa
open Go.RowKit Go.Deep Go.Joins
set_option linter.unusedVariables false

/-- That values fit rows. -/
def ValOk (p : Int) (z : List (List Int)) (v : List Int) : Prop := v.length = z.length ∧ Elems p v
noncomputable def snL (p : Int) (n : Nat) (z : List (List Int)) (v : List Int) : List Int := if tell (ValOk p z v) = true then solL p n z v else []
noncomputable def snCode (p : Int) (n : Nat) (z : List (List Int)) (v : List Int) : Int := if tell (ValOk p z v) = true then solCode p n z v else 2
theorem sn_no {p : Int} {n : Nat} {z : List (List Int)} {v : List Int} (h : ¬ ValOk p z v) : snL p n z v = [] ∧ snCode p n z v = 2 := by unfold snL snCode; rw [tell_false h]; exact ⟨rfl, rfl⟩
theorem sn_yes {p : Int} {n : Nat} {z : List (List Int)} {v : List Int} (h : ValOk p z v) : snL p n z v = solL p n z v ∧ snCode p n z v = solCode p n z v := by unfold snL snCode; rw [tell_true h]; exact ⟨rfl, rfl⟩
theorem snL_len {p : Int} {n : Nat} {z : List (List Int)} {v : List Int} (hn : n ≤ 1048576) : (snL p n z v).length ≤ 1048576 := by
  unfold snL
  split
  · exact solL_len hn
  · simp
theorem grid_of {W : World} {base n c : Nat} {p : Int} {a : Option Addr} {us : List Value} {zss : List (List Int)} (h : OwnG W base p (.slice a n c) us zss) : GridR W a p zss := by
  obtain ⟨a', c', e, hr⟩ := h.grid
  cases e
  exact hr

set_option maxRecDepth 100000 in
set_option maxHeartbeats 4000000 in
theorem solution_any (p : Int) (n : Nat) (a : Option Addr) (ca : Nat) (z : List (List Int)) (av : Option Addr) (v : List Int) (cv : Nat) (w : World) (hg : GoodM p n z) (hn : n ≤ 999) (hr : GridR w a p z) (hv : Ints w av v) (hvl : v.length ≤ 9223372036854775807) :
    Calls Try.prog 78 #[.agg #[.slice a z.length ca, .int .i64 p, .int .i64 ((n : Nat) : Int)], .slice av v.length cv] w (GivesIntsCode w (snL p n z v) (snCode p n z v)) := by
  have hzm := hg.hm
  have hp0 := hg.prm.1
  have HPR := Lib.hid hg.prm
  have HGD := Lib.hid hg
  have HROW := Lib.hid (fun r (hr : r < z.length) => (hg.rows r hr).1)
  have hb1 := al_b w (.cells #[.slice a z.length ca, .int .i64 p, .int .i64 ((n : Nat) : Int)] 102)
  have HX := Lib.hid (show Boxes (w.alloc (.cells #[.slice a z.length ca, .int .i64 p, .int .i64 ((n : Nat) : Int)] 102)) w.heap.size 102 #[.slice a z.length ca, .int .i64 p, .int .i64 ((n : Nat) : Int)] from World.alloc_heap_new w _)
  have HR := Lib.hid (hr.below hb1 (Nat.le_refl _))
  have HV := Lib.hid (hv.below hb1 (Nat.le_refl _))
  have HB1 := Lib.hid hb1
  clear hg hr hv hb1
  go_enter Try.func78, Try.ntmps78
  by_cases hl : v.length = z.length
  case neg =>
    have hne0 : ¬ (v.length : Int) = (z.length : Int) := by omega
    have hne : ((v.length : Int) != (z.length : Int)) = true := by simp; omega
    have HS := Lib.hid (sn_no (n := n) (fun (k : ValOk p z v) => hl k.1))
    clear hl
    go_wp2_with fail
    go_ret2
    refine ⟨⟨_, by rw [HS.out.2]; rfl, ?_⟩, HB1.out⟩
    rw [HS.out.1]
    exact OwnI.nil _ _
  have hne : ((v.length : Int) != (z.length : Int)) = false := by simp; omega
  have hle0 : (v.length : Int) = (z.length : Int) := by omega
  have HL := Lib.hid hl
  clear hl
  go_wp2_with fail
  refine (prime_any p _).mono ?_
  rintro e w' ⟨rfl, rfl⟩
  go_wp2_with fail
  refine (areElems_any p av v cv _ HV.out hvl).mono ?_
  rintro e w' ⟨rfl, rfl⟩
  by_cases he : Elems p v
  case neg =>
    have HT := Lib.hid (tell_false (p := Elems p v ∧ Prm p) fun k => he k.1)
    have HS := Lib.hid (sn_no (n := n) (fun (k : ValOk p z v) => he k.2))
    clear he
    rw [HT.out]
    go_wp2_with fail
    go_ret2
    refine ⟨⟨_, by rw [HS.out.2]; rfl, ?_⟩, HB1.out⟩
    rw [HS.out.1]
    exact OwnI.nil _ _
  have HT := Lib.hid (tell_true (p := Elems p v ∧ Prm p) ⟨he, HPR.out⟩)
  have HS := Lib.hid (sn_yes (n := n) (show ValOk p z v from ⟨HL.out, he⟩))
  obtain ⟨N, hN⟩ : ∃ N : Nat, N = n + 1 := ⟨_, rfl⟩
  have HN := Lib.hid hN
  have hN0 : n < N := by omega
  have hN1 : N ≤ 1000 := by omega
  have HG := Lib.hid (show GoodM p N (besA z [v] z.length) by rw [hN]; exact bes1_good HGD.out (by omega) HL.out he)
  clear he hN
  rw [HT.out]
  generalize w.alloc (.cells #[.slice a z.length ca, .int .i64 p, .int .i64 ((n : Nat) : Int)] 102) = w1 at *
  have x0 := HX.out.m0
  have x1 := HX.out.m1
  have x2 := HX.out.m2
  have xl := HX.out.lt
  have hs1 := HB1.out.size
  go_wp2_with fail
  have hcall := withColumn_any p n a ca z av v cv w1 HR.out hzm hn HROW.out HV.out HL.out
  rw [show ((n : Nat) : Int) + 1 = ((N : Nat) : Int) by rw [HN.out]; rfl] at hcall
  refine hcall.mono ?_
  clear hcall
  rintro e w2 ⟨⟨va, vc, us2, rfl, hog⟩, hb2⟩
  have HG2 := Lib.hid (grid_of hog)
  have HX2 := Lib.hid (HX.out.step hb2)
  have HB2 := Lib.hid (HB1.out.trans (hb2.mono hs1))
  have hs2 := HB2.out.size
  clear hog hb2 x0 x1 x2 xl HX HR HV
  go_wp2_with fail
  have hred := reduced_any p N va vc (besA z [v] z.length) w2 HG.out HG2.out
  rw [besA_len] at hred
  refine hred.mono ?_
  clear hred
  rintro e w3 ⟨⟨ra, rc, us, fa, fc, f, F, x, rfl, hst, hog, hfi, -⟩, hb3⟩
  obtain ⟨hF, htab⟩ := ech_of HG.out (by rw [besA_len]; exact hst)
  have HF := Lib.hid hF
  have HTB := Lib.hid htab
  have hle := hst.len
  have HX3 := Lib.hid (HX2.out.step hb3)
  have HB3 := Lib.hid (HB2.out.trans (hb3.mono hs2))
  have hs3 := HB3.out.size
  have HFB := Lib.hid (show ∀ k, k < F.length → nthN F k < N from fun k hk => hst.lenk.2 _ (nthN_mem hk))
  have hra : Boxes (w3.alloc (.cells #[.slice ra z.length rc, .int .i64 p, .int .i64 ((N : Nat) : Int), .slice fa F.length fc, .int .i64 p, .int .i64 x] 128)) w3.heap.size 128 #[.slice ra z.length rc, .int .i64 p, .int .i64 ((N : Nat) : Int), .slice fa F.length fc, .int .i64 p, .int .i64 x] := World.alloc_heap_new w3 _
  have hb4 := al_b w3 (.cells #[.slice ra z.length rc, .int .i64 p, .int .i64 ((N : Nat) : Int), .slice fa F.length fc, .int .i64 p, .int .i64 x] 128)
  have c2 := (HX3.out.step hb4).m2
  have cl := (HX3.out.step hb4).lt
  have RA0 := Lib.hid (show RedAt (w3.alloc (.cells #[.slice ra z.length rc, .int .i64 p, .int .i64 ((N : Nat) : Int), .slice fa F.length fc, .int .i64 p, .int .i64 x] 128)) w3.heap.size w2.heap.size p z.length N ra rc us f fa fc F x from ⟨hra, hog.step hb4, row_step hfi hb4⟩)
  have hs4 : (w3.alloc (.cells #[.slice ra z.length rc, .int .i64 p, .int .i64 ((N : Nat) : Int), .slice fa F.length fc, .int .i64 p, .int .i64 x] 128)).heap.size = w3.heap.size + 1 := by simp
  have r3 := RA0.out.e3
  have rl := RA0.out.box.lt
  have hmk := run_make_row' (P := Try.prog) 35 2 (.int .i64 0) 8 Try.underlying35 Try.infoInt64 rfl .i64 .i64 n (by omega) (by omega)
  clear hst hog hfi htab hF hb3 hra HX2 HB2
  go_wp2_with fail
  generalize w3.alloc (.cells #[.slice ra z.length rc, .int .i64 p, .int .i64 ((N : Nat) : Int), .slice fa F.length fc, .int .i64 p, .int .i64 x] 128) = w4 at *
  have HB4 := Lib.hid (HB3.out.trans (hb4.mono hs3))
  have HX4 := Lib.hid (HX3.out.step hb4)
  have hs5 := HB4.out.size
  have hr0 := Lib.hid (show (w4.alloc (.cells (madeCells #[.int .i64 0] n) 2)).rowIs (w3.heap.size + 1) 2 n (fun _ => .int .i64 0) by have := World.rowIs_made w4 (.int .i64 0) n 2; rw [hs4] at this; exact this)
  have hB0 := Lib.hid ((Below.refl w4.heap.size w4).alloc (Nat.le_refl _) (.cells (madeCells #[.int .i64 0] n) 2))
  clear hmk c2 cl hb4 r3 rl HX3
  generalize w4.alloc (.cells (madeCells #[.int .i64 0] n) 2) = w6 at *
  go_loopw [8, 9, 34] (fun q8 q9 i wr => ∃ k : Nat, k ≤ F.length ∧ i = .int .i64 k ∧ (∀ j, j < k → nthN F j ≠ n) ∧ wr.rowIs (w3.heap.size + 1) 2 n (fun r => .int .i64 (solAt (fun _ => 0) F (solG p n z v) k r)) ∧ Below w4.heap.size w4 wr)
    (fun _ _ i _ => F.length - (intOf i).toNat)
  case atStart => exact ⟨0, Nat.zero_le _, rfl, fun j hj => absurd hj (Nat.not_lt_zero _), hr0.out.congr (fun i _ => rfl), hB0.out⟩
  case round =>
    obtain ⟨k, hk, rfl, hne2, hrow, hbel⟩ := hrel
    have HNE := Lib.hid hne2
    have HRO := Lib.hid hrow
    have HBE := Lib.hid hbel
    have hszr := hbel.size
    clear hne2 hrow hbel hr0 hB0
    by_cases hlt : k < F.length
    · have hk0 : (k : Int) < (F.length : Int) := by omega
      have hra := RA0.out.step HBE.out
      obtain ⟨fb, fcap, hfe, hfb, hfl⟩ := hra.firsts.form (by omega)
      cases hfe
      have hfk := World.ownsRow.cellAt hra.firsts k (by omega)
      rw [cols_at hlt] at hfk
      have hrb := HFB.out k hlt
      have hx := HX4.out.step HBE.out
      have c2 := hx.m2
      have cl := hx.lt
      have HRE := Lib.hid (show ∀ r : Nat, solAt (fun _ => 0) F (solG p n z v) (k + 1) r = if r = nthN F k then solG p n z v k else solAt (fun _ => 0) F (solG p n z v) k r from fun r => rfl)
      obtain ⟨r, hr⟩ : ∃ r, nthN F k = r := ⟨_, rfl⟩
      have HRK := Lib.hid hr
      have HRA := Lib.hid hra
      rw [hr] at hfk hrb HRE
      have hrN : r ≤ n := by have := HN.out; omega
      clear hx hr hra
      by_cases e : r = n
      · subst e
        have hNo : ¬ SolOk p r z v := fun h => h k (by unfold solF; rw [← HN.out, ← HF.out]; exact hlt) (by unfold solF; rw [← HN.out, ← HF.out]; exact HRK.out)
        have HQ := Lib.hid (sol_no hNo)
        clear hNo
        go_wp2_with fail
        go_ret2
        refine ⟨⟨_, by rw [HS.out.2, HQ.out.2]; rfl, ?_⟩, HB4.out.trans (HBE.out.mono hs5)⟩
        rw [HS.out.1, HQ.out.1]
        exact OwnI.nil _ _
      · have e0 : ¬ (r : Int) = (n : Int) := by omega
        have e1 : r < n := by omega
        have e2 : (r : Int) < (n : Int) := by omega
        obtain ⟨b, g, cap, hea, -, -, hbl, hgl, hcr, hcc⟩ := HRA.out.row (r := k) (by omega) (by omega)
        cases hea
        have d := (hcc n hN0).2
        have hkz : (k : Int) < (z.length : Int) := by omega
        have r0 := HRA.out.e0
        have rl := HRA.out.box.lt
        have HD := Lib.hid (show f k n = solG p n z v k from by
          unfold solG
          rw [← HN.out, ← HTB.out, tab_at _ _ _ hlt hN0])
        rw [HD.out] at d
        have hrc := HRO.out.cell e1
        have hfr := HRO.out.frozen r
        have hrl := HRO.out.lt
        have HRN := Lib.hid (fun (W : World) (h : W.rowIs (w3.heap.size + 1) 2 n (fun r => .int .i64 (solAt (fun _ => 0) F (solG p n z v) k r))) => (h.set r (.int .i64 (solG p n z v k))).congr (g := fun q => .int .i64 (solAt (fun _ => 0) F (solG p n z v) (k + 1) q)) (fun q _ => by
          simp only [HRE.out]
          by_cases hq : q = r
          · subst hq; simp
          · simp [hq]))
        have HNE2 := Lib.hid (show ∀ j, j < k + 1 → nthN F j ≠ n from fun j hj => by
          by_cases hjk : j = k
          · subst hjk; rw [HRK.out]; exact e
          · exact HNE.out j (by omega))
        clear hcc HRE
        obtain ⟨y, hy⟩ : ∃ y, solG p n z v k = y := ⟨_, rfl⟩
        rw [hy] at d HRN
        clear hy
        have hnN : (n : Int) < (N : Int) := by omega
        go_wp2_with fail
        go_region
        all_goals (
          go_wp2_with fail
          go_roundw
          case rel => exact ⟨k + 1, by omega, by go_num, HNE2.out, by first | exact HRN.out _ HRO.out | exact HRN.out _ (rowIs_below HRO.out (drew_step _) HRO.out.lt), by first | exact HBE.out.setCell (p := ⟨w3.heap.size + 1, r, none⟩) (Nat.le_of_eq hs4) _ | exact (HBE.out.drew).setCell (p := ⟨w3.heap.size + 1, r, none⟩) (Nat.le_of_eq hs4) _⟩
          case measure => simp [intOf]; omega)
    · have HE := Lib.hid (show k = F.length by omega)
      have hYes : SolOk p n z v := fun j hj => by
        unfold solF at hj ⊢
        rw [← HN.out, ← HF.out] at hj ⊢
        exact HNE.out j (by rw [HE.out]; exact hj)
      have HQ := Lib.hid (sol_yes hYes)
      clear hYes
      have hk0 : ¬ (k : Int) < (F.length : Int) := by omega
      go_wp2_with fail
      go_ret2
      refine ⟨⟨_, by rw [HS.out.2, HQ.out.2]; rfl, ?_⟩, HB4.out.trans (HBE.out.mono hs5)⟩
      rw [HS.out.1, HQ.out.1]
      have h1 := HRO.out
      rw [HE.out] at h1
      have h2 := own_of_row (zs := solZ p n z v) (by rw [solZ_len]; exact h1.congr (fun i hi => by unfold solZ solF; rw [← HN.out, ← HF.out, rowOf_at _ _ hi])) (by rw [solZ_len]; unfold maxLen; omega)
      rw [solZ_len] at h2
      exact h2.mono (by omega)
end Go.Proofs.Ytnebkhelobpkpaa

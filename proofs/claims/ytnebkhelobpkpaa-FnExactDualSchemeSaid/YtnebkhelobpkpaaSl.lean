/- l03Solve and l03Combine of the model. -/
import Derived.Test.YtnebkhelobpkpaaBe
import Derived.Test.YtnebkhelobpkpaaEm1
namespace Go.Proofs.Ytnebkhelobpkpaa
open Go.RowKit Go.Deep Go.Joins
set_option linter.unusedVariables false

theorem colI_nth {F : List Nat} {k : Nat} (h : k < F.length) : nth (colI F) k = ((nthN F k : Nat) : Int) := by
  rw [nth_lt (by rw [colI_len]; exact h), nthN_lt h]; simp [colI]
theorem own_rows3 {W : World} {base n c : Nat} {a : Option Addr} {us : List Value} {zss : List (List Int)} (h : Own W base (.slice a n c) us zss) : Rows2 W a zss := by
  obtain ⟨a', c', e, hr⟩ := h.rows2
  cases e
  exact hr
theorem rows_one {W : World} {b c : Nat} {av : Option Addr} {v : List Int} (hc : W.cell? ⟨b, 0, none⟩ = some (.slice av v.length c)) (hi : Ints W av v) : Rows2 W (some ⟨b, 0, none⟩) [v] := .inr ⟨b, 0, rfl, fun i h => by
  have : i = 0 := by simpa using h
  subst this
  exact ⟨av, c, hc, hi⟩⟩
theorem l03Beside1_any (q0 n ca : Nat) (p : Int) (a : Option Addr) (z : List (List Int)) (ac : Option Addr) (v : List Int) (w : World) (hbx : Boxes w q0 46 #[.int .i64 p, .int .i64 ((n : Nat) : Int), .slice a z.length ca]) (hr : Rows2 w a z) (hz : z.length ≤ 1000) (hn : n ≤ 1000) (hrow : ∀ r, r < z.length → (nthL z r).length = n) (hrc : Rows2 w ac [v]) (hl : v.length = z.length) (N : Nat) (hN : N = n + 1) :
    Calls Try.prog 123 #[.pointer (some ⟨q0, 0, none⟩), .slice ac 1 1] w fun e w' => (∃ va vc us, e = .returned (.agg #[.int .i64 p, .int .i64 ((N : Nat) : Int), .slice va z.length vc]) ∧ Own w' w.heap.size (.slice va z.length vc) us (besA z [v] z.length)) ∧ Below w.heap.size w w' := by
  refine (l03Beside_any q0 p n a z ca ac [v] 1 w hbx hr hz hn hrow hrc (by simp) (fun q hq => ?_)).mono ?_
  · have : q = 0 := by simpa using hq
    subst this
    exact hl
  · rintro e w' ⟨⟨va, vc, us, rfl, ho⟩, hb⟩
    refine ⟨⟨va, vc, us, ?_, ho⟩, hb⟩
    rw [show ((n : Int) + (([v] : List (List Int)).length : Int)) = ((N : Nat) : Int) by rw [hN]; simp]

set_option maxRecDepth 100000 in
set_option maxHeartbeats 4000000 in
theorem l03Solve_any (q0 n ca cv : Nat) (p : Int) (a av : Option Addr) (z : List (List Int)) (v : List Int) (w : World) (hbx : Boxes w q0 46 #[.int .i64 p, .int .i64 ((n : Nat) : Int), .slice a z.length ca]) (hr : Rows2 w a z) (hg : GoodM p n z) (hn : n ≤ 999) (hv : Ints w av v) (hl : v.length = z.length) (he : Elems p v) :
    Calls Try.prog 72 #[.pointer (some ⟨q0, 0, none⟩), .slice av v.length cv] w fun e w' => (∃ u, e = .returned (.tuple #[u, .bool (tell (SolOk p n z v))]) ∧ OwnI w' w.heap.size u (solL p n z v)) ∧ Below w.heap.size w w' := by
  have hzm := hg.hm
  obtain ⟨N, hN⟩ : ∃ N : Nat, N = n + 1 := ⟨_, rfl⟩
  have HN := Lib.hid hN
  have hN0 : n < N := by omega
  have hN1 : N ≤ 1000 := by omega
  have HG := Lib.hid (show GoodM p N (besA z [v] z.length) by rw [hN]; exact bes1_good hg (by omega) hl he)
  have HROW := Lib.hid (fun r (hr : r < z.length) => (hg.rows r hr).1)
  have HR := Lib.hid hr
  have HV := Lib.hid hv
  have HX := Lib.hid hbx
  have HL := Lib.hid hl
  obtain ⟨F, hF⟩ : ∃ F, echF p N (besA z [v] z.length) = F := ⟨_, rfl⟩
  have HF := Lib.hid hF
  clear hbx hr hg hv hl he hF hN
  go_enter Try.func72, Try.ntmps72
  go_wp2_with fail
  have hb1 := al_b w (.cells #[.slice av v.length cv] 35)
  have hx1 := HX.out.step hb1
  have hr1 := HR.out.below hb1 (Nat.le_refl _)
  have hv1 : Rows2 (w.alloc (.cells #[.slice av v.length cv] 35)) (some ⟨w.heap.size, 0, none⟩) [v] := rows_one (cell_one_new _ _ _ 0 _ rfl) (HV.out.below hb1 (Nat.le_refl _))
  generalize w.alloc (.cells #[.slice av v.length cv] 35) = w1 at *
  refine (l03Beside1_any q0 n ca p a z _ v w1 hx1 hr1 hzm (by omega) HROW.out hv1 HL.out N HN.out).mono ?_
  rintro e w2 ⟨⟨va, vc, us, rfl, ho⟩, hb2⟩
  have HX2 := Lib.hid (hx1.step hb2)
  have HB2 := Lib.hid (hb1.trans (hb2.mono hb1.size))
  have hs2 := HB2.out.size
  have HR2 := Lib.hid (show Rows2 w2 va (besA z [v] z.length) from (own_rows3 ho))
  clear hb1 hx1 hr1 hv1 hb2 ho
  go_wp2_with fail
  have hbx3 : Boxes (w2.alloc (.cells #[.int .i64 p, .int .i64 ((N : Nat) : Int), .slice va z.length vc] 46)) w2.heap.size 46 #[.int .i64 p, .int .i64 ((N : Nat) : Int), .slice va (besA z [v] z.length).length vc] := by
    rw [besA_len]; exact World.alloc_heap_new w2 _
  have hb3 := al_b w2 (.cells #[.int .i64 p, .int .i64 ((N : Nat) : Int), .slice va z.length vc] 46)
  have hr3 := HR2.out.below hb3 (Nat.le_refl _)
  generalize w2.alloc (.cells #[.int .i64 p, .int .i64 ((N : Nat) : Int), .slice va z.length vc] 46) = w3 at *
  have hs3 := hb3.size
  refine (l03Echelon_any w2.heap.size N vc p va (besA z [v] z.length) w3 hbx3 hr3 HG.out).mono ?_
  rintro e w4 ⟨⟨ea, ec, fa, fc, us4, f, rfl, hom, hof, hle, htab⟩, hb4⟩
  rw [HF.out] at hof hle htab ⊢
  have HX4 := Lib.hid ((HX2.out.step hb3).step hb4)
  have HB4 := Lib.hid (HB2.out.trans ((hb3.trans (hb4.mono hs3)).mono hs2))
  have hs4 := HB4.out.size
  have HOM := Lib.hid hom
  have HOF := Lib.hid hof
  have HTB := Lib.hid htab
  rw [besA_len] at hle
  have HFB := Lib.hid (show ∀ k, k < F.length → nthN F k < N from fun k hk => echF_lt (p := p) (z := besA z [v] z.length) _ (by rw [HF.out]; exact nthN_mem hk))
  clear hbx3 hb3 hr3 hom hof htab hb4 HR2 HX2 HB2
  have c1 := (HX4.out.step (al_b w4 (.cells #[.int .i64 p, .int .i64 ((N : Nat) : Int), .slice ea F.length ec] 46))).m1
  have cl := (HX4.out.step (al_b w4 (.cells #[.int .i64 p, .int .i64 ((N : Nat) : Int), .slice ea F.length ec] 46))).lt
  have hmk := run_make_row' (P := Try.prog) 35 2 (.int .i64 0) 8 Try.underlying35 Try.infoInt64 rfl .i64 .i64 n (by omega) (by omega)
  go_wp2_with fail
  have hb5 := al_b w4 (.cells #[.int .i64 p, .int .i64 ((N : Nat) : Int), .slice ea F.length ec] 46)
  have hxe : Boxes (w4.alloc (.cells #[.int .i64 p, .int .i64 ((N : Nat) : Int), .slice ea F.length ec] 46)) w4.heap.size 46 #[.int .i64 p, .int .i64 ((N : Nat) : Int), .slice ea F.length ec] := World.alloc_heap_new w4 _
  have hs45 : (w4.alloc (.cells #[.int .i64 p, .int .i64 ((N : Nat) : Int), .slice ea F.length ec] 46)).heap.size = w4.heap.size + 1 := by simp
  generalize w4.alloc (.cells #[.int .i64 p, .int .i64 ((N : Nat) : Int), .slice ea F.length ec] 46) = w5 at *
  have HXE := Lib.hid hxe
  have HX5 := Lib.hid (HX4.out.step hb5)
  have HB5 := Lib.hid (HB4.out.trans (hb5.mono hs4))
  have HOM5 := Lib.hid (HOM.out.step hb5)
  have HOF5 := Lib.hid (Ints_of_own (HOF.out.step hb5))
  have hs5 := HB5.out.size
  have hr0 := Lib.hid (show (w5.alloc (.cells (madeCells #[.int .i64 0] n) 2)).rowIs (w4.heap.size + 1) 2 n (fun _ => .int .i64 0) by have := World.rowIs_made w5 (.int .i64 0) n 2; rw [hs45] at this; exact this)
  have hB0 := Lib.hid ((Below.refl w5.heap.size w5).alloc (Nat.le_refl _) (.cells (madeCells #[.int .i64 0] n) 2))
  clear hmk c1 cl hb5 hxe HX4 HB4 HOM HOF
  generalize w5.alloc (.cells (madeCells #[.int .i64 0] n) 2) = w6 at *
  go_loopw [10] (fun i wr => ∃ k : Nat, k ≤ F.length ∧ i = .int .i64 k ∧ (∀ j, j < k → nthN F j ≠ n) ∧ wr.rowIs (w4.heap.size + 1) 2 n (fun r => .int .i64 (solAt (fun _ => 0) F (solG p n z v) k r)) ∧ Below w5.heap.size w5 wr)
    (fun i _ => F.length - (intOf i).toNat)
  case atStart => exact ⟨0, Nat.zero_le _, rfl, fun j hj => absurd hj (Nat.not_lt_zero _), hr0.out.congr (fun i _ => rfl), hB0.out⟩
  case round =>
    obtain ⟨k, hk, rfl, hne, hrow, hbel⟩ := hrel
    have HNE := Lib.hid hne
    have HRO := Lib.hid hrow
    have HBE := Lib.hid hbel
    have hszr := hbel.size
    clear hne hrow hbel hr0 hB0
    by_cases hlt : k < F.length
    · have hk0 : (k : Int) < (F.length : Int) := by omega
      rcases HOF5.out.below HBE.out (Nat.le_refl _) with h | ⟨fb, fo, rfl, hfc⟩
      · have := congrArg List.length h
        rw [colI_len] at this
        exact absurd hlt (by rw [this]; simp)
      have hfk := hfc k (by rw [colI_len]; exact hlt)
      rw [colI_nth hlt] at hfk
      have hrb := HFB.out k hlt
      have hx := HX5.out.step HBE.out
      have c1 := hx.m1
      have cl := hx.lt
      have HRE := Lib.hid (show ∀ r : Nat, solAt (fun _ => 0) F (solG p n z v) (k + 1) r = if r = nthN F k then solG p n z v k else solAt (fun _ => 0) F (solG p n z v) k r from fun r => rfl)
      obtain ⟨r, hr⟩ : ∃ r, nthN F k = r := ⟨_, rfl⟩
      have HRK := Lib.hid hr
      rw [hr] at hfk hrb HRE
      clear hfc hx hr
      have hrN : r ≤ n := by have := HN.out; omega
      by_cases e : r = n
      · subst e
        have hNo : ¬ SolOk p r z v := fun h => h k (by unfold solF; rw [← HN.out, HF.out]; exact hlt) (by unfold solF; rw [← HN.out, HF.out]; exact HRK.out)
        have HT := Lib.hid (tell_false hNo)
        have HS := Lib.hid (sol_no hNo)
        clear hNo
        go_wp2_with fail
        go_region
        all_goals (
          go_wp2_with fail
          go_ret2
          rw [HT.out, HS.out.1]
          refine ⟨⟨_, rfl, ?_⟩, ?_⟩
          · first
              | exact World.ownsRow_made wr #[] 0 (by omega) (by unfold maxLen; omega) rfl
              | exact World.ownsRow_made wr.drew #[] 0 (by simp; omega) (by unfold maxLen; omega) rfl
          · first
              | exact (HB5.out.trans (HBE.out.mono hs5)).alloc (by omega) _
              | exact ((HB5.out.trans (HBE.out.mono hs5)).drew).alloc (by simp; omega) _)
      · have e0 : ¬ (r : Int) = (n : Int) := by omega
        have e1 : r < n := by omega
        have e2 : (r : Int) < (n : Int) := by omega
        obtain ⟨b, g, cap, hea, -, -, hbl, hcr, -, hoi, -⟩ := (HOM5.out.step HBE.out).at (r := k) (by rw [besA_len]; omega) (Nat.lt_of_le_of_lt (Nat.zero_le _) hN0)
        subst hea
        have d := hoi.at (j := n) hN0
        have dl := hoi.gl.2
        have HD := Lib.hid (show f k n = solG p n z v k from by
          unfold solG
          rw [← HN.out, ← HTB.out, tab_at _ _ _ hlt hN0])
        rw [HD.out] at d
        have hxe := HXE.out.step HBE.out
        have x2 := hxe.m2
        have xl := hxe.lt
        have hrc := HRO.out.cell e1
        have hfr := HRO.out.frozen r
        have hrl := HRO.out.lt
        have HRN := Lib.hid (fun (W : World) (h : W.rowIs (w4.heap.size + 1) 2 n (fun r => .int .i64 (solAt (fun _ => 0) F (solG p n z v) k r))) => (h.set r (.int .i64 (solG p n z v k))).congr (g := fun q => .int .i64 (solAt (fun _ => 0) F (solG p n z v) (k + 1) q)) (fun q _ => by
          simp only [HRE.out]
          by_cases hq : q = r
          · subst hq; simp
          · simp [hq]))
        have HNE2 := Lib.hid (show ∀ j, j < k + 1 → nthN F j ≠ n from fun j hj => by
          by_cases hjk : j = k
          · subst hjk; rw [HRK.out]; exact e
          · exact HNE.out j (by omega))
        clear hoi hxe HRE
        obtain ⟨x, hx⟩ : ∃ x, solG p n z v k = x := ⟨_, rfl⟩
        rw [hx] at d HRN
        clear hx
        have hnN : (n : Int) < (N : Int) := by omega
        go_wp2_with fail
        go_region
        all_goals (
          go_wp2_with fail
          go_region
          all_goals (
            go_wp2_with fail
            go_roundw
            case rel => exact ⟨k + 1, by omega, by go_num, HNE2.out, by first | exact HRN.out _ HRO.out | exact HRN.out _ (rowIs_below HRO.out (drew_step _) HRO.out.lt) | exact HRN.out _ (rowIs_below (rowIs_below HRO.out (drew_step _) HRO.out.lt) (drew_step _) (by simpa using HRO.out.lt)), by first | exact HBE.out.setCell (p := ⟨w4.heap.size + 1, r, none⟩) (Nat.le_of_eq hs45) _ | exact (HBE.out.drew).setCell (p := ⟨w4.heap.size + 1, r, none⟩) (Nat.le_of_eq hs45) _ | exact (HBE.out.drew.drew).setCell (p := ⟨w4.heap.size + 1, r, none⟩) (Nat.le_of_eq hs45) _⟩
            case measure => simp [intOf]; omega))
    · have HE := Lib.hid (show k = F.length by omega)
      have hYes : SolOk p n z v := fun j hj => by
        unfold solF at hj ⊢
        rw [← HN.out, HF.out] at hj ⊢
        exact HNE.out j (by rw [HE.out]; exact hj)
      have HT := Lib.hid (tell_true hYes)
      have HS := Lib.hid (sol_yes hYes)
      clear hYes
      have hk0 : ¬ (k : Int) < (F.length : Int) := by omega
      go_wp2_with fail
      go_ret2
      rw [HT.out, HS.out.1]
      refine ⟨⟨_, rfl, ?_⟩, HB5.out.trans (HBE.out.mono hs5)⟩
      have h1 := HRO.out
      rw [HE.out] at h1
      have h2 := own_of_row (zs := solZ p n z v) (by rw [solZ_len]; exact h1.congr (fun i hi => by unfold solZ solF; rw [← HN.out, HF.out, rowOf_at _ _ hi])) (by rw [solZ_len]; unfold maxLen; omega)
      rw [solZ_len] at h2
      exact h2.mono (by omega)
end Go.Proofs.Ytnebkhelobpkpaa

/- The model's ThresholdFamily and WeightedFamily. -/
import Derived.Test.YtpkflamhniidiaaWts
namespace Go.Proofs.Ytpkflamhniidiaa
open Go.RowKit Go.Deep Go.Shelf
set_option linter.unusedVariables false

def ThrOk (n k : Int) : Prop := (1 ≤ n ∧ n ≤ 7) ∧ 0 ≤ k ∧ k ≤ n + 1
noncomputable def thrOf (n k : Int) : FR := if tell (ThrOk n k) = true then ⟨n, famOf n.toNat (fun x => decide (k ≤ ((listOf x).length : Nat))), 0⟩ else noFam 2
theorem thrOf_yes {n k : Int} (h : ThrOk n k) : thrOf n k = ⟨n, famOf n.toNat (fun x => decide (k ≤ ((listOf x).length : Nat))), 0⟩ := by rw [thrOf, if_pos (tell_true h)]
theorem thrOf_no {n k : Int} (h : ¬ ThrOk n k) : thrOf n k = noFam 2 := by rw [thrOf, if_neg (by rw [tell_false h]; simp)]

def WtdOk (zs : List Int) (quota : Int) : Prop := (1 ≤ zs.length ∧ zs.length ≤ 7) ∧ (0 ≤ quota ∧ quota ≤ 7001) ∧ ∀ i, i < zs.length → 0 ≤ nth zs i ∧ nth zs i ≤ 1000
noncomputable def wtdOf (zs : List Int) (quota : Int) : FR := if tell (WtdOk zs quota) = true then ⟨(zs.length : Nat), famOf zs.length (heavy zs quota), 0⟩ else noFam 2
theorem wtdOf_yes {zs : List Int} {k : Int} (h : WtdOk zs k) : wtdOf zs k = ⟨(zs.length : Nat), famOf zs.length (heavy zs k), 0⟩ := by rw [wtdOf, if_pos (tell_true h)]
theorem wtdOf_no {zs : List Int} {k : Int} (h : ¬ WtdOk zs k) : wtdOf zs k = noFam 2 := by rw [wtdOf, if_neg (by rw [tell_false h]; simp)]

theorem ones_fact : ∀ n : Fin 8, ∀ x : Fin 128, x.val < 2 ^ n.val → wsum (List.replicate n.val 1) x.val n.val = ((listOf x.val).length : Nat) := by decide +kernel
theorem famOf_ones {n : Nat} (h7 : n ≤ 7) (k : Int) : famOf (List.replicate n (1 : Int)).length (heavy (List.replicate n 1) k) = famOf n (fun x => decide (k ≤ ((listOf x).length : Nat))) := by
  rw [List.length_replicate]
  refine famOf_congr h7 fun y hy => ?_
  have hy7 : y < 128 := Nat.lt_of_lt_of_le hy (Nat.pow_le_pow_right (by decide) h7 : 2 ^ n ≤ 2 ^ 7)
  unfold heavy
  rw [List.length_replicate, ones_fact ⟨n, by omega⟩ ⟨y, hy7⟩ hy]

theorem rep_snoc (k : Nat) : vals (List.replicate (k + 1) 1) = vals (List.replicate k 1) ++ [.int .i64 1] := by
  rw [List.replicate_succ']; simp [vals]

set_option maxHeartbeats 600000 in
set_option maxRecDepth 100000 in
theorem specThr_any (n k : Int) (w : World) : Calls Try.prog 15 #[.int .i64 n, .int .i64 k] w (GivesFC w (thrOf n k)) := by
  by_cases hn : 1 ≤ n ∧ n ≤ 7
  · have t1 := Lib.hid (show (decide (1 ≤ n) && decide (n ≤ 7)) = true by simp; omega)
    have n1 : 1 ≤ n := hn.1
    have n7 : n ≤ 7 := hn.2
    by_cases hk : 0 ≤ k ∧ k ≤ n + 1
    · have t2 := Lib.hid (show (decide (0 ≤ k) && decide (k ≤ n + 1)) = true by simp; omega)
      have HV := Lib.hid (thrOf_yes (n := n) (k := k) ⟨hn, hk⟩)
      obtain ⟨m, rfl⟩ : ∃ m : Nat, n = (m : Int) := ⟨n.toNat, by omega⟩
      obtain ⟨i0, hi, hz0, hz1, hz2⟩ := info_parts Try.infoInt64
      clear hn hk
      go_enter Try.func15, Try.ntmps15
      go_wp2_with fail
      refine (l00In_val _ 1 7 true _ t1.out).mono ?_
      rintro e w' ⟨rfl, rfl⟩
      go_wp2_with fail
      refine (l00In_val _ 0 _ true _ t2.out).mono ?_
      rintro e w' ⟨rfl, rfl⟩
      go_wp2_with fail
      have hB0 := ((Below.refl w.heap.size w).alloc (Nat.le_refl _) (.cells #[.int .i64 0, .slice none 0 0] 25)).alloc (by simp) (.cells #[] 2)
      have hF0 : ((w.alloc (.cells #[.int .i64 0, .slice none 0 0] 25)).alloc (.cells #[] 2)).heap[w.heap.size]? = some (.cells #[.int .i64 0, .slice none 0 0] 25) := (Below.heap_alloc _ _ _ (by simp)).trans (World.alloc_heap_new w _)
      have hR0 : OwnI ((w.alloc (.cells #[.int .i64 0, .slice none 0 0] 25)).alloc (.cells #[] 2)) (w.heap.size + 1) (.slice (some ⟨w.heap.size + 1, 0, none⟩) 0 0) (List.replicate 0 1) := by
        have := World.ownsRow_made (w.alloc (.cells #[.int .i64 0, .slice none 0 0] 25)) #[] 0 (e := 2) (size := 1) (Nat.le_refl _) (by unfold maxLen; omega) rfl
        unfold OwnI
        simpa [vals] using this
      generalize ((w.alloc (.cells #[.int .i64 0, .slice none 0 0] 25)).alloc (.cells #[] 2)) = w1 at *
      generalize (Value.slice (some ⟨w.heap.size + 1, 0, none⟩) 0 0) = v0 at *
      go_loopw [6, 7] (fun v i wr => ∃ j : Nat, j ≤ m ∧ i = .int .i64 j ∧ OwnI wr (w.heap.size + 1) v (List.replicate j 1) ∧ Below w.heap.size w wr ∧ wr.heap[w.heap.size]? = some (.cells #[.int .i64 0, .slice none 0 0] 25))
        (fun _ i _ => m - (intOf i).toNat)
      case atStart => exact ⟨0, by omega, rfl, hR0, hB0, hF0⟩
      case round =>
        obtain ⟨j, hj, rfl, hrow, hbel, hfam⟩ := hrel
        clear hB0 hF0 hR0
        have HR := Lib.hid hrow
        have HB := Lib.hid hbel
        have HF := Lib.hid hfam
        have hszr := (Array.getElem?_eq_some_iff.1 hfam).1
        clear hrow hbel hfam
        by_cases hlt : j < m
        · have hji : (j : Int) < (m : Int) := by omega
          have hlr : (List.replicate j (1 : Int)).length = j := List.length_replicate
          have HLR := Lib.hid hlr
          have hlr1 : (List.replicate j (1 : Int)).length ≤ 7 := by omega
          clear hlr
          go_wp2_with (at_builtin; refine wpList_append_own _ rfl _ _ 35 rfl (w.heap.size + 1) 2 i0 (.int .i64 0) 1 8 Try.underlying35 hi hz0 hz1 hz2 rfl (by decide) _ _ _ rfl (World.ownsRow.alloc HR.out _) ⟨wr.heap.size, 0, none⟩ 1 1 [.int .i64 1] rfl rfl (cell_one_new _ _ _) (by simp [Value.oneCell']) (by unfold maxLen; omega) (by omega) (by simp; omega) ?_; intro v' w1 hown2 hgrow2 _; have HO2 := Lib.hid hown2; have HG2 := Lib.hid hgrow2; clear hown2 hgrow2)
          go_roundw
          case rel =>
            refine ⟨j + 1, by omega, by go_num, ?_, ?_, ?_⟩
            · unfold OwnI; rw [rep_snoc]; have := HO2.out; rw [HLR.out] at this; rw [List.length_replicate]; exact this
            · exact (HB.out.alloc (Nat.le_of_lt hszr) _).grown HG2.out (by simp; omega) (fun q hq => by have := (HR.out.lt hq).1; omega)
            · refine (HG2.out.block _ (by simp; omega) (fun e => ?_)).trans ((Below.heap_alloc _ _ _ (by omega)).trans HF.out)
              have := (HR.out.lt e.symm).1; omega
          case measure => simp [intOf]; omega
        · have HK := Lib.hid (show j = m by omega)
          have hx := HR.out
          rw [HK.out] at hx
          have hL : (List.replicate m (1 : Int)).length = m := List.length_replicate
          have hW : ∀ i, i < (List.replicate m (1 : Int)).length → 0 ≤ nth (List.replicate m (1 : Int)) i ∧ nth (List.replicate m (1 : Int)) i ≤ 1000 := fun i hi => by rw [nth_lt hi]; simp
          have hF := famOf_ones (n := m) (by omega) k
          generalize List.replicate m (1 : Int) = zs at *
          obtain ⟨a1, c1, rfl, hI, hlen⟩ := hx.ints
          have HI := Lib.hid hI
          have HL := Lib.hid hL
          have HW := Lib.hid hW
          have HFO := Lib.hid hF
          have hl7 : zs.length ≤ 7 := by omega
          clear hI hx hL hW hF
          go_wp2_with fail
          refine (l01Weighted_any a1 zs c1 k wr HI.out (by rw [HL.out]; omega) hl7 HW.out).mono ?_
          rintro e w' ⟨⟨a2, c2, rfl, hrows, hlens⟩, hb⟩
          have hf' := (hb.block w.heap.size hszr).trans HF.out
          have c0 : w'.cell? ⟨w.heap.size, 0, none⟩ = some (.int .i64 0) := by simp [World.cell?, hf']
          have c1 : w'.cell? ⟨w.heap.size, 1, none⟩ = some (.slice none 0 0) := by simp [World.cell?, hf']
          have f0 : w'.frozen? ⟨w.heap.size, 0, none⟩ = false := by simp [World.frozen?, hf']
          have f1 : w'.frozen? ⟨w.heap.size, 1, none⟩ = false := by simp [World.frozen?, hf']
          have HRR := Lib.hid hrows
          have HB2 := Lib.hid (HB.out.trans (hb.mono (Nat.le_of_lt hszr)))
          clear hrows hlens hb hf'
          generalize famOf zs.length (heavy zs k) = Z at *
          rw [HL.out]
          go_wp2_with fail
          refine bodyPost_ret (v := .tuple #[.agg #[.int .i64 (m : Nat), .slice a2 Z.length c2], .int .i64 0]) (by simp [results, Try.results15, go_sem, c0, c1]) rfl ?_
          rw [HV.out, Int.toNat_natCast, ← HFO.out]
          exact ⟨⟨a2, c2, rfl, ((HRR.out.set hszr 0 _).set hszr 1 _).mono (Nat.le_of_lt hszr)⟩, (HB2.out.setCell (by simp) _).setCell (by simp) _⟩
    · have t2 := Lib.hid (show (decide (0 ≤ k) && decide (k ≤ n + 1)) = false by simp; omega)
      have HV := Lib.hid (thrOf_no (n := n) (k := k) fun h => hk h.2)
      clear hn hk
      go_enter Try.func15, Try.ntmps15
      go_wp2_with fail
      refine (l00In_val _ 1 7 true _ t1.out).mono ?_
      rintro e w' ⟨rfl, rfl⟩
      go_wp2_with fail
      refine (l00In_val _ 0 _ false _ t2.out).mono ?_
      rintro e w' ⟨rfl, rfl⟩
      go_wp2_with fail
      refine bodyPost_ret (v := .tuple #[.agg #[.int .i64 0, .slice none 0 0], .int .i64 2]) (by simp [results, Try.results15, go_sem]) rfl ?_
      rw [HV.out]
      exact GivesFC.no _ (by go_grown)
  · have t1 := Lib.hid (show (decide (1 ≤ n) && decide (n ≤ 7)) = false by simp; omega)
    have HV := Lib.hid (thrOf_no (n := n) (k := k) fun h => hn h.1)
    clear hn
    go_enter Try.func15, Try.ntmps15
    go_wp2_with fail
    refine (l00In_val _ 1 7 false _ t1.out).mono ?_
    rintro e w' ⟨rfl, rfl⟩
    go_wp2_with fail
    refine bodyPost_ret (v := .tuple #[.agg #[.int .i64 0, .slice none 0 0], .int .i64 2]) (by simp [results, Try.results15, go_sem]) rfl ?_
    rw [HV.out]
    exact GivesFC.no _ (by go_grown)
end Go.Proofs.Ytpkflamhniidiaa

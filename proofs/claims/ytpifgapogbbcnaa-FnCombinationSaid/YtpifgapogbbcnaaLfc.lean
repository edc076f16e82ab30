/- 'laws.FnCombination': for every matrix and list that a law draws: what is spanned is told, a combination gives the list, and a system that has a solution is solved. No condition. -/
import Derived.Test.YtpifgapogbbcnaaDr4
namespace Go.Proofs.Ytpifgapogbbcnaa
open Go.ChangeShapes Go.WideShapes Go.ChangeAt Go.RowKit Go.Deep Go.Joins
set_option linter.unusedVariables false
namespace Comb

theorem mat_lens {p c : Int} {z : List (List Int)} (h : MatOk p c z) : Lens z := ⟨by have := h.2.2.1; omega, fun r hr => by have h1 := h.2.1.2; have h2 := (h.2.2.2 r hr).1; omega⟩

set_option maxRecDepth 100000 in
set_option maxHeartbeats 8000000 in
theorem law (a0 : Option Addr) (z0 : List Int) (c0 : Nat) (a1 : Option Addr) (z1 : List Int) (c1 : Nat) (w : World) (hr0 : Bytes w a0 z0) (hl0 : z0.length ≤ 9223372036854775807) (hr1 : Bytes w a1 z1) (hl1 : z1.length ≤ 9223372036854775807) :
    Calls Try.prog 3 #[.slice a0 z0.length c0, .slice a1 z1.length c1] w fun e w' => e = .returned (.bool true) ∧ Below w.heap.size w w' := by
  have R0 := Lib.hid hr0
  have R1 := Lib.hid hr1
  clear hr0 hr1
  by_cases hlong : 3000 < z0.length ∨ 3000 < z1.length
  · have HT := Lib.hid (tell_true hlong)
    clear hlong
    go_enter Try.func3, Try.ntmps3
    go_wp2_with fail
    refine (a2Long_any a0 a1 z0 z1 c0 c1 w).mono ?_
    rintro e w' ⟨rfl, rfl⟩
    rw [HT.out]
    go_wp2_with fail
    go_ret
    exact ⟨rfl, Below.refl _ _⟩
  have HT := Lib.hid (tell_false hlong)
  have s0 : z0.length ≤ 3000 := by omega
  have s1 : z1.length ≤ 3000 := by omega
  clear hlong
  obtain ⟨i0, hi, hz0, hz1, hz2⟩ := info_parts Try.infoInt64
  go_enter Try.func3, Try.ntmps3
  go_wp2_with fail
  refine (a2Long_any a0 a1 z0 z1 c0 c1 w).mono ?_
  rintro e w' ⟨rfl, rfl⟩
  rw [HT.out]
  go_wp2_with fail
  refine (A2Matrix_any a0 z0 c0 w R0.out s0).mono ?_
  rintro e w1 ⟨⟨p, n, va, z, vc, rfl, hm, hn5, hz5, hr⟩, hb1⟩
  have HM := Lib.hid hm
  have HLZ := Lib.hid (mat_lens hm)
  have hp0 := hm.1.1
  have hp1 := hm.1.2.1
  have hba := al_b w1 (.cells #[.int .i64 p, .int .i64 (n : Int), .slice va z.length vc] 26)
  have hx : Boxes (w1.alloc (.cells #[.int .i64 p, .int .i64 (n : Int), .slice va z.length vc] 26)) w1.heap.size 26 #[.int .i64 p, .int .i64 (n : Int), .slice va z.length vc] := World.alloc_heap_new _ _
  have HR := Lib.hid (hr.step hba)
  have HBW := Lib.hid (chain hb1 hba)
  have HY1 := Lib.hid (show Bytes (w1.alloc (.cells #[.int .i64 p, .int .i64 (n : Int), .slice va z.length vc] 26)) a1 z1 from ⟨by
    rcases R1.out.1 with h1 | ⟨b, o, e, hc⟩
    · exact .inl h1
    · exact .inr ⟨b, o, e, fun i hi => cell_step hba (cell_step hb1 (hc i hi))⟩, R1.out.2⟩)
  go_wp2_with fail
  clear hm hba hr hb1
  generalize w1.alloc (.cells #[.int .i64 p, .int .i64 (n : Int), .slice va z.length vc] 26) = w2 at *
  generalize w1.heap.size = mo at *
  refine (A2Elements_any a1 z1 c1 p n w2 HY1.out s1 hp0 hp1 (by omega)).mono ?_
  rintro e w3 ⟨⟨ta, tc, v, rfl, hvl, hve, htg⟩, hb⟩
  have HVL := Lib.hid hvl
  have HVE := Lib.hid hve
  have HTG := Lib.hid htg
  have HXM := Lib.hid (hx.step hb)
  replace HR := Lib.hid (HR.out.step hb)
  replace HBW := Lib.hid (chain HBW.out hb)
  clear hx hb hvl hve htg HY1
  have HCM := Lib.hid (comb_is HM.out (by omega) HVL.out HVE.out)
  have a0 := HXM.out.m0
  have a1 := HXM.out.m1
  have a2 := HXM.out.m2
  have al := HXM.out.lt
  go_wp2_with fail
  refine (show Calls Try.prog 8 #[.agg #[.int .i64 p, .int .i64 (n : Int), .slice va z.length vc], .slice ta n tc] w3 _ from HVL.out ▸ implIs_any p n va z vc ta v tc w3 HR.out HLZ.out HTG.out (by have := HVL.out; omega)).mono ?_
  rintro e w4 ⟨rfl, hb⟩
  clear a0 a1 a2 al
  replace HXM := Lib.hid (HXM.out.step hb)
  replace HR := Lib.hid (HR.out.step hb)
  replace HTG := Lib.hid (HTG.out.step hb)
  replace HBW := Lib.hid (chain HBW.out hb)
  clear hb
  have a0 := HXM.out.m0
  have a1 := HXM.out.m1
  have a2 := HXM.out.m2
  have al := HXM.out.lt
  go_wp2_with fail
  refine (show Calls Try.prog 9 #[.agg #[.int .i64 p, .int .i64 (n : Int), .slice va z.length vc], .slice ta n tc] w4 _ from HVL.out ▸ implCb_any p n va z vc ta v tc w4 HR.out HLZ.out HTG.out (by have := HVL.out; omega)).mono ?_
  rintro e w5 ⟨⟨cv, rfl, hoc⟩, hb⟩
  clear a0 a1 a2 al
  replace HXM := Lib.hid (HXM.out.step hb)
  replace HR := Lib.hid (HR.out.step hb)
  replace HTG := Lib.hid (HTG.out.step hb)
  replace HBW := Lib.hid (chain HBW.out hb)
  clear hb
  have a0 := HXM.out.m0
  have a1 := HXM.out.m1
  have a2 := HXM.out.m2
  have al := HXM.out.lt
  unfold isB isCode
  rcases HCM.out with h6 | ⟨h0, hcl, hce, hcd⟩
  · rw [h6]
    clear hoc
    go_wp2_with fail
    clear a0 a1 a2 al
    have hbv := al_b w5 (.cells #[] 2)
    have hown0 : OwnI (w5.alloc (.cells #[] 2)) w5.heap.size (.slice (some ⟨w5.heap.size, 0, none⟩) 0 0) ([] : List Int) := by
      exact World.ownsRow_made w5 (base := w5.heap.size) (e := 2) (size := 1) #[] 0 (Nat.le_refl _) (by unfold maxLen; omega) rfl
    have HOW := Lib.hid hown0
    have HBA := Lib.hid hbv
    clear hown0 hbv
    go_wp2_with fail
    generalize w5.alloc (.cells #[] 2) = w9 at *
    generalize (Value.slice (some ⟨w5.heap.size, 0, none⟩) 0 0) = v0 at *
    generalize hbb : w5.heap.size = base at *
    have HBB := Lib.hid hbb
    clear hbb
    go_loopw [15, 16] (fun q5 i wi => ∃ k : Nat, k ≤ z.length ∧ i = .int .i64 k ∧ OwnI wi base q5 ((valsOf p n z v).take k) ∧ Below base w5 wi)
      (fun _ i _ => z.length - (intOf i).toNat)
    case atStart => exact ⟨0, Nat.zero_le _, rfl, by simpa using HOW.out, HBA.out⟩
    case round =>
      obtain ⟨k, hk, rfl, ho, hb⟩ := hrel
      have HOI := Lib.hid ho
      have HBI := Lib.hid hb
      have hbs : Below w5.heap.size w5 wr := by rw [HBB.out]; exact hb
      have HXI := Lib.hid (HXM.out.step hbs)
      have hsz : base ≤ wr.heap.size := by have := hb.size; have := HBB.out; omega
      have hlk : ((valsOf p n z v).take k).length = k := by rw [List.length_take, valsOf_len]; omega
      have HLK := Lib.hid hlk
      obtain ⟨ua, uc, hu5⟩ := rowForm HOI.out
      rw [hlk] at hu5
      subst hu5
      have a0 := HXI.out.m0
      have a1 := HXI.out.m1
      have a2 := HXI.out.m2
      have al := HXI.out.lt
      clear ho hb HOW HBA hlk
      by_cases hltk : k < z.length
      · have hk0 : (k : Int) < (z.length : Int) := by omega
        rcases HR.out.step hbs with h | ⟨zb, zo, hva, hzc⟩
        · rw [h] at hltk; exact absurd hltk (Nat.not_lt_zero _)
        rw [hva] at a2
        obtain ⟨ai, ci, d1, i1⟩ := hzc k hltk
        have e1 : (nthL z k).length = n := by have := (HM.out.2.2.2 k hltk).1; omega
        rw [e1] at d1
        have l1 := World.block_lt_of_cell? _ _ d1
        have I1 := Lib.hid i1
        have I2 := Lib.hid (HTG.out.step hbs)
        have HTK := Lib.hid (take_snoc1 (valsOf p n z v) (k := k) (by rw [valsOf_len]; exact hltk))
        generalize hx0 : nth (valsOf p n z v) k = x at *
        have HD := Lib.hid (show ∀ (W : World), Ints W ai (nthL z k) → Ints W ta v → Calls Try.prog 10 #[.int .i64 p, .slice ai n ci, .slice ta n tc] W fun e w' => e = .returned (.int .i64 x) ∧ Quiet W w' from fun W h1 h2 => by
          have h0 := a2Dot_any p ai ta (nthL z k) v ci tc n W h1 h2 e1 HVL.out (by omega) hp0 hp1 (HM.out.2.2.2 k hltk).2 HVE.out
          rw [← valsOf_at _ _ _ _ hltk, hx0] at h0
          exact h0)
        clear hzc i1 e1 hx0 hbs hva
        go_wp2_with fail
        go_region_law (first
          | (go_simp; refine (HD.out _ (by first | exact I1.out | exact I1.out.step (drew_step _)) (by first | exact I2.out | exact I2.out.step (drew_step _))).mono ?_; rintro e w6 ⟨rfl, hq6⟩; have HB6 := Lib.hid (show Below wr.heap.size wr w6 by first | exact quiet_below hq6 | exact (drew_step wr).trans (quiet_below hq6)); have HO6 := Lib.hid (HOI.out.step HB6.out); have hs6 : wr.heap.size ≤ w6.heap.size := HB6.out.size; clear hq6)
          | (refine step_append_lies _ (by rfl) _ _ 28 (by rfl) base 2 i0 (.int .i64 0) 1 8 Try.underlying28 hi hz0 hz1 hz2 (by rfl) (by decide) (.slice ua k uc) k (vals ((valsOf p n z v).take k)) (by first | rfl | simp [Act.eval]) (by have := HO6.out; unfold OwnI at this; rw [HLK.out] at this; exact World.ownsRow.alloc this _) ⟨w6.heap.size, 0, none⟩ 1 1 [.int .i64 x] (by first | rfl | simp [Act.eval]) (by rfl) (by first | exact cell_one_new _ _ _ | (intro j u hj; exact cell_one_new w6 _ _ j u hj)) (by simp [Value.oneCell']) (by decide) (by unfold maxLen; omega) (by omega) (by simp; omega) _ rfl ?_; intro g cap w8 hown8 hgrow8 hat8 hlt8))
        all_goals (
          have HO8 := Lib.hid (show OwnI w8 base (.slice (some ⟨g, 0, none⟩) (k + 1) cap) ((valsOf p n z v).take (k + 1)) by
            rw [HTK.out]; unfold OwnI; rw [vals_snoc, List.length_append, HLK.out]; exact hown8)
          have HB8 := Lib.hid (show Below base w5 w8 from (((HBI.out.trans (HB6.out.mono hsz)).alloc (by omega) (.cells #[.int .i64 x] 2)).grown hgrow8 (by simp; omega) (fun q hq => (row_lt HO6.out hq).1)))
          clear hown8 hgrow8 hat8 hlt8
          go_wp2_with fail
          go_roundw
          case rel => exact ⟨k + 1, by omega, by go_num, HO8.out, HB8.out⟩
          case measure => simp [intOf]; omega)
      · have hk0 : ¬ (k : Int) < (z.length : Int) := by omega
        have hE : k = z.length := by omega
        have hall : (valsOf p n z v).take k = valsOf p n z v := List.take_of_length_le (by rw [valsOf_len]; omega)
        have HOV := Lib.hid (show OwnI wr base (.slice ua (valsOf p n z v).length uc) (valsOf p n z v) by have h := HOI.out; rw [hall, hE] at h; rw [valsOf_len]; exact h)
        have HIV := Lib.hid (Ints_of_own HOV.out)
        have HVV := Lib.hid (valsOf_len p n z v)
        have HRI := Lib.hid (HR.out.step hbs)
        have hbw2 := chain HBW.out hbs
        have HBW2 := Lib.hid hbw2
        have hue : (Value.slice ua k uc) = .slice ua (valsOf p n z v).length uc := by rw [valsOf_len, hE]
        rw [hue]
        have HSV := Lib.hid (solve_is HM.out (by omega) HVL.out HVE.out)
        clear hall HOI HLK hbs hbw2 HTG hue
        generalize hvals : valsOf p n z v = vals9 at *
        go_wp2_with fail
        clear a0 a1 a2 al
        refine (implSf_any p n va z vc ua vals9 uc wr HRI.out HLZ.out HIV.out (by have := HVV.out; omega)).mono ?_
        rw [HSV.out.1]
        have HSL := Lib.hid HSV.out.2.1
        have HSE := Lib.hid HSV.out.2.2.1
        have HSD := Lib.hid HSV.out.2.2.2
        generalize sfZs p n z vals9 = sol at *
        clear HSV
        rintro e w10 ⟨⟨sv, rfl, hos⟩, hb⟩
        obtain ⟨sa, sc, hse⟩ := rowForm hos
        subst hse
        have HIS := Lib.hid (Ints_of_own hos)
        replace HXI := Lib.hid (HXI.out.step hb)
        replace HRI := Lib.hid (HRI.out.step hb)
        replace HIV := Lib.hid (HIV.out.step hb)
        replace HBW2 := Lib.hid (chain HBW2.out hb)
        clear hb hos HOV
        have a0 := HXI.out.m0
        have a1 := HXI.out.m1
        have a2 := HXI.out.m2
        have al := HXI.out.lt
        have hsl := HSL.out
        rw [hsl]
        clear hsl
        go_wp2_with fail
        clear a0 a1 a2 al
        go_loopw [19] (fun i wi => ∃ k : Nat, k ≤ z.length ∧ i = .int .i64 k ∧ Quiet w10 wi)
          (fun i _ => z.length - (intOf i).toNat)
        case atStart => exact ⟨0, Nat.zero_le _, rfl, Quiet.refl _⟩
        case round =>
          obtain ⟨k2, hk2, rfl, hq⟩ := hrel
          have hbq := quiet_below hq
          have HQ1 := Lib.hid hq
          have a0 := (HXI.out.step hbq).m0
          have a2 := (HXI.out.step hbq).m2
          have al := (HXI.out.step hbq).lt
          have hrz := HRI.out.step hbq
          have hiv := HIV.out.step hbq
          clear hq hbq
          by_cases hll : k2 < z.length
          · have hl0 : (k2 : Int) < (z.length : Int) := by omega
            rcases hrz with h | ⟨zb, zo, hva, hzc⟩
            · rw [h] at hll; exact absurd hll (Nat.not_lt_zero _)
            have hvl9 := HVV.out
            rcases hiv with h | ⟨vb, vo, hua, hvc⟩
            · rw [h] at hvl9; simp at hvl9; omega
            rw [hva] at a2
            obtain ⟨ai, ci, d1, i1⟩ := hzc k2 hll
            have d2 := hvc k2 (by omega)
            have hk9 : (k2 : Int) < (vals9.length : Int) := by omega
            have e1 : (nthL z k2).length = n := by have := (HM.out.2.2.2 k2 hll).1; omega
            rw [e1] at d1
            have l1 := World.block_lt_of_cell? _ _ d1
            have l2 := World.block_lt_of_cell? _ _ d2
            have I1 := Lib.hid i1
            have I2 := Lib.hid HIS.out
            generalize hx0 : nth vals9 k2 = x at *
            have HD := Lib.hid (show ∀ (W : World), Ints W ai (nthL z k2) → Ints W sa sol → Calls Try.prog 10 #[.int .i64 p, .slice ai n ci, .slice sa n sc] W fun e w' => e = .returned (.int .i64 x) ∧ Quiet W w' from fun W h1 h2 => by
              have h0 := a2Dot_any p ai sa (nthL z k2) sol ci sc n W h1 h2 e1 HSL.out (by omega) hp0 hp1 (HM.out.2.2.2 k2 hll).2 HSE.out
              rw [HSD.out k2 hll, hx0] at h0
              exact h0)
            subst hua
            clear hzc hvc i1 e1 hx0 hva hvl9
            go_wp2_with fail
            go_quiet ((go_at_call 10; exact Calls.quiet_of (HD.out _ (I1.out.quiet ⟨_, rfl⟩) ((I2.out.quiet HQ1.out).quiet ⟨_, rfl⟩))))
            go_wp2_with fail
            go_roundw
            case rel => exact ⟨k2 + 1, by omega, by go_num, HQ1.out.trans ⟨_, rfl⟩⟩
            case measure => simp [intOf]; omega
          · have hl0 : ¬ (k2 : Int) < (z.length : Int) := by omega
            clear hrz hiv
            go_wp2_with fail
            go_ret
            exact ⟨rfl, chain HBW2.out (quiet_below HQ1.out)⟩
  · rw [h0]
    have HCE := Lib.hid hce
    have HCD := Lib.hid hcd
    have HCL := Lib.hid hcl
    obtain ⟨ca, cc, hcv⟩ := rowForm hoc
    rw [hcl] at hcv
    subst hcv
    have HIC := Lib.hid (Ints_of_own hoc)
    generalize cbZs p n z v = cb at *
    clear hoc hce hcd hcl h0
    go_wp2_with fail
    clear a0 a1 a2 al
    go_loopw [12, 13, 14] (fun j s i wi => ∃ k : Nat, k ≤ n ∧ j = .int .i64 k ∧ Quiet w5 wi)
      (fun j _ _ _ => n - (intOf j).toNat)
    case atStart => exact ⟨0, Nat.zero_le _, rfl, Quiet.refl _⟩
    case round =>
      obtain ⟨j, hj, rfl, hq⟩ := hrel
      have hbq := quiet_below hq
      have HQ := Lib.hid hq
      have a1 := (HXM.out.step hbq).m1
      have al := (HXM.out.step hbq).lt
      clear hq
      obtain ⟨wo, rfl⟩ : ∃ wo : World, wo = wr := ⟨_, rfl⟩
      by_cases hlj : j < n
      · have hj0 : (j : Int) < (n : Int) := by omega
        clear hbq
        go_wp2_with fail
        clear a1 al
        go_loopw [13, 14] (fun s i wi => ∃ k : Nat, k ≤ z.length ∧ s = .int .i64 (dotTo (nth cb) (fun i => nth (nthL z i) j) k % p) ∧ i = .int .i64 k ∧ Quiet w5 wi)
          (fun _ i _ => z.length - (intOf i).toNat)
        case atStart => exact ⟨0, Nat.zero_le _, by simp [dotTo], rfl, HQ.out⟩
        case round =>
          obtain ⟨k, hk, rfl, rfl, hq⟩ := hrel
          have hbq := quiet_below hq
          have HQ1 := Lib.hid hq
          have pp : p ≠ 0 := by omega
          have q0 := Int.emod_nonneg (dotTo (nth cb) (fun i => nth (nthL z i) j) k) pp
          have q1 := Int.emod_lt_of_pos (dotTo (nth cb) (fun i => nth (nthL z i) j) k) (show 0 < p by omega)
          by_cases hlk : k < z.length
          · have hk0 : (k : Int) < (z.length : Int) := by omega
            have a0 := (HXM.out.step hbq).m0
            have a2 := (HXM.out.step hbq).m2
            have al := (HXM.out.step hbq).lt
            rcases HR.out.step hbq with h | ⟨zb, zo, hva, hzc⟩
            · rw [h] at hlk; exact absurd hlk (Nat.not_lt_zero _)
            have hcl := HCL.out
            rcases HIC.out.step hbq with h | ⟨kb, ko, rfl, hkc⟩
            · rw [h] at hcl; simp at hcl; omega
            rw [hva] at a2
            obtain ⟨ai, ci, d1, i1⟩ := hzc k hlk
            have d3 := hkc k (by omega)
            have e1 : (nthL z k).length = n := by have := (HM.out.2.2.2 k hlk).1; omega
            rw [e1] at d1
            rcases i1 with h | ⟨rb, ro, rfl, hrc⟩
            · rw [h] at e1; simp at e1; omega
            have d2 := hrc j (by omega)
            have l1 := World.block_lt_of_cell? _ _ d1
            have l2 := World.block_lt_of_cell? _ _ d2
            have l3 := World.block_lt_of_cell? _ _ d3
            obtain ⟨x0, x1⟩ := HCE.out k (by omega)
            obtain ⟨y0, y1⟩ := (HM.out.2.2.2 k hlk).2 j (by omega)
            have HST := Lib.hid (show (dotTo (nth cb) (fun i => nth (nthL z i) j) k % p + nth cb k * nth (nthL z k) j) % p = dotTo (nth cb) (fun i => nth (nthL z i) j) (k + 1) % p from dot_step p _ _ _)
            obtain ⟨m0, m1⟩ := mul_bounds hp1 ⟨x0, x1⟩ ⟨y0, y1⟩
            generalize dotTo (nth cb) (fun i => nth (nthL z i) j) k % p = s at *
            generalize nth cb k = x at *
            generalize nth (nthL z k) j = y at *
            clear hzc hkc hrc hva hcl e1 hbq hq
            go_wp2_with fail
            go_quiet (fail)
            go_wp2_with fail
            go_roundw
            case rel => exact ⟨k + 1, by omega, by rw [HST.out], by go_num, HQ1.out.trans ⟨_, rfl⟩⟩
            case measure => simp [intOf]; omega
          · have hk0 : ¬ (k : Int) < (z.length : Int) := by omega
            have hE : k = z.length := by omega
            have HCJ := Lib.hid (HCD.out j hlj)
            rw [hE, HCJ.out]
            have hvl := HVL.out
            rcases HTG.out.step hbq with h | ⟨kb, ko, hta, hkc⟩
            · rw [h] at hvl; simp at hvl; omega
            have d3 := hkc j (by omega)
            have l3 := World.block_lt_of_cell? _ _ d3
            generalize nth v j = y at *
            subst hta
            clear hkc hvl q0 q1 hbq hq
            go_wp2_with fail
            go_roundw
            case rel => exact ⟨j + 1, by omega, by go_num, HQ1.out⟩
            case measure => simp [intOf]; omega
      · have hj0 : ¬ (j : Int) < (n : Int) := by omega
        have hb := hbq
        clear hbq HIC
        replace HXM := Lib.hid (HXM.out.step hb)
        replace HR := Lib.hid (HR.out.step hb)
        replace HTG := Lib.hid (HTG.out.step hb)
        replace HBW := Lib.hid (chain HBW.out hb)
        clear hb
        go_wp2_with fail
        clear a1 al
        have hbv := al_b wo (.cells #[] 2)
        have hown0 : OwnI (wo.alloc (.cells #[] 2)) wo.heap.size (.slice (some ⟨wo.heap.size, 0, none⟩) 0 0) ([] : List Int) := by
          exact World.ownsRow_made wo (base := wo.heap.size) (e := 2) (size := 1) #[] 0 (Nat.le_refl _) (by unfold maxLen; omega) rfl
        have HOW := Lib.hid hown0
        have HBA := Lib.hid hbv
        clear hown0 hbv
        go_wp2_with fail
        generalize wo.alloc (.cells #[] 2) = w9 at *
        generalize (Value.slice (some ⟨wo.heap.size, 0, none⟩) 0 0) = v0 at *
        generalize hbb : wo.heap.size = base at *
        have HBB := Lib.hid hbb
        clear hbb
        go_loopw [15, 16] (fun q5 i wi => ∃ k : Nat, k ≤ z.length ∧ i = .int .i64 k ∧ OwnI wi base q5 ((valsOf p n z v).take k) ∧ Below base wo wi)
          (fun _ i _ => z.length - (intOf i).toNat)
        case atStart => exact ⟨0, Nat.zero_le _, rfl, by simpa using HOW.out, HBA.out⟩
        case round =>
          obtain ⟨k, hk, rfl, ho, hb⟩ := hrel
          have HOI := Lib.hid ho
          have HBI := Lib.hid hb
          have hbs : Below wo.heap.size wo wr := by rw [HBB.out]; exact hb
          have HXI := Lib.hid (HXM.out.step hbs)
          have hsz : base ≤ wr.heap.size := by have := hb.size; have := HBB.out; omega
          have hlk : ((valsOf p n z v).take k).length = k := by rw [List.length_take, valsOf_len]; omega
          have HLK := Lib.hid hlk
          obtain ⟨ua, uc, hu5⟩ := rowForm HOI.out
          rw [hlk] at hu5
          subst hu5
          have a0 := HXI.out.m0
          have a1 := HXI.out.m1
          have a2 := HXI.out.m2
          have al := HXI.out.lt
          clear ho hb HOW HBA hlk
          by_cases hltk : k < z.length
          · have hk0 : (k : Int) < (z.length : Int) := by omega
            rcases HR.out.step hbs with h | ⟨zb, zo, hva, hzc⟩
            · rw [h] at hltk; exact absurd hltk (Nat.not_lt_zero _)
            rw [hva] at a2
            obtain ⟨ai, ci, d1, i1⟩ := hzc k hltk
            have e1 : (nthL z k).length = n := by have := (HM.out.2.2.2 k hltk).1; omega
            rw [e1] at d1
            have l1 := World.block_lt_of_cell? _ _ d1
            have I1 := Lib.hid i1
            have I2 := Lib.hid (HTG.out.step hbs)
            have HTK := Lib.hid (take_snoc1 (valsOf p n z v) (k := k) (by rw [valsOf_len]; exact hltk))
            generalize hx0 : nth (valsOf p n z v) k = x at *
            have HD := Lib.hid (show ∀ (W : World), Ints W ai (nthL z k) → Ints W ta v → Calls Try.prog 10 #[.int .i64 p, .slice ai n ci, .slice ta n tc] W fun e w' => e = .returned (.int .i64 x) ∧ Quiet W w' from fun W h1 h2 => by
              have h0 := a2Dot_any p ai ta (nthL z k) v ci tc n W h1 h2 e1 HVL.out (by omega) hp0 hp1 (HM.out.2.2.2 k hltk).2 HVE.out
              rw [← valsOf_at _ _ _ _ hltk, hx0] at h0
              exact h0)
            clear hzc i1 e1 hx0 hbs hva
            go_wp2_with fail
            go_region_law (first
              | (go_simp; refine (HD.out _ (by first | exact I1.out | exact I1.out.step (drew_step _)) (by first | exact I2.out | exact I2.out.step (drew_step _))).mono ?_; rintro e w6 ⟨rfl, hq6⟩; have HB6 := Lib.hid (show Below wr.heap.size wr w6 by first | exact quiet_below hq6 | exact (drew_step wr).trans (quiet_below hq6)); have HO6 := Lib.hid (HOI.out.step HB6.out); have hs6 : wr.heap.size ≤ w6.heap.size := HB6.out.size; clear hq6)
              | (refine step_append_lies _ (by rfl) _ _ 28 (by rfl) base 2 i0 (.int .i64 0) 1 8 Try.underlying28 hi hz0 hz1 hz2 (by rfl) (by decide) (.slice ua k uc) k (vals ((valsOf p n z v).take k)) (by first | rfl | simp [Act.eval]) (by have := HO6.out; unfold OwnI at this; rw [HLK.out] at this; exact World.ownsRow.alloc this _) ⟨w6.heap.size, 0, none⟩ 1 1 [.int .i64 x] (by first | rfl | simp [Act.eval]) (by rfl) (by first | exact cell_one_new _ _ _ | (intro j u hj; exact cell_one_new w6 _ _ j u hj)) (by simp [Value.oneCell']) (by decide) (by unfold maxLen; omega) (by omega) (by simp; omega) _ rfl ?_; intro g cap w8 hown8 hgrow8 hat8 hlt8))
            all_goals (
              have HO8 := Lib.hid (show OwnI w8 base (.slice (some ⟨g, 0, none⟩) (k + 1) cap) ((valsOf p n z v).take (k + 1)) by
                rw [HTK.out]; unfold OwnI; rw [vals_snoc, List.length_append, HLK.out]; exact hown8)
              have HB8 := Lib.hid (show Below base wo w8 from (((HBI.out.trans (HB6.out.mono hsz)).alloc (by omega) (.cells #[.int .i64 x] 2)).grown hgrow8 (by simp; omega) (fun q hq => (row_lt HO6.out hq).1)))
              clear hown8 hgrow8 hat8 hlt8
              go_wp2_with fail
              go_roundw
              case rel => exact ⟨k + 1, by omega, by go_num, HO8.out, HB8.out⟩
              case measure => simp [intOf]; omega)
          · have hk0 : ¬ (k : Int) < (z.length : Int) := by omega
            have hE : k = z.length := by omega
            have hall : (valsOf p n z v).take k = valsOf p n z v := List.take_of_length_le (by rw [valsOf_len]; omega)
            have HOV := Lib.hid (show OwnI wr base (.slice ua (valsOf p n z v).length uc) (valsOf p n z v) by have h := HOI.out; rw [hall, hE] at h; rw [valsOf_len]; exact h)
            have HIV := Lib.hid (Ints_of_own HOV.out)
            have HVV := Lib.hid (valsOf_len p n z v)
            have HRI := Lib.hid (HR.out.step hbs)
            have hbw2 := chain HBW.out hbs
            have HBW2 := Lib.hid hbw2
            have hue : (Value.slice ua k uc) = .slice ua (valsOf p n z v).length uc := by rw [valsOf_len, hE]
            rw [hue]
            have HSV := Lib.hid (solve_is HM.out (by omega) HVL.out HVE.out)
            clear hall HOI HLK hbs hbw2 HTG hue
            generalize hvals : valsOf p n z v = vals9 at *
            go_wp2_with fail
            clear a0 a1 a2 al
            refine (implSf_any p n va z vc ua vals9 uc wr HRI.out HLZ.out HIV.out (by have := HVV.out; omega)).mono ?_
            rw [HSV.out.1]
            have HSL := Lib.hid HSV.out.2.1
            have HSE := Lib.hid HSV.out.2.2.1
            have HSD := Lib.hid HSV.out.2.2.2
            generalize sfZs p n z vals9 = sol at *
            clear HSV
            rintro e w10 ⟨⟨sv, rfl, hos⟩, hb⟩
            obtain ⟨sa, sc, hse⟩ := rowForm hos
            subst hse
            have HIS := Lib.hid (Ints_of_own hos)
            replace HXI := Lib.hid (HXI.out.step hb)
            replace HRI := Lib.hid (HRI.out.step hb)
            replace HIV := Lib.hid (HIV.out.step hb)
            replace HBW2 := Lib.hid (chain HBW2.out hb)
            clear hb hos HOV
            have a0 := HXI.out.m0
            have a1 := HXI.out.m1
            have a2 := HXI.out.m2
            have al := HXI.out.lt
            have hsl := HSL.out
            rw [hsl]
            clear hsl
            go_wp2_with fail
            clear a0 a1 a2 al
            go_loopw [19] (fun i wi => ∃ k : Nat, k ≤ z.length ∧ i = .int .i64 k ∧ Quiet w10 wi)
              (fun i _ => z.length - (intOf i).toNat)
            case atStart => exact ⟨0, Nat.zero_le _, rfl, Quiet.refl _⟩
            case round =>
              obtain ⟨k2, hk2, rfl, hq⟩ := hrel
              have hbq := quiet_below hq
              have HQ1 := Lib.hid hq
              have a0 := (HXI.out.step hbq).m0
              have a2 := (HXI.out.step hbq).m2
              have al := (HXI.out.step hbq).lt
              have hrz := HRI.out.step hbq
              have hiv := HIV.out.step hbq
              clear hq hbq
              by_cases hll : k2 < z.length
              · have hl0 : (k2 : Int) < (z.length : Int) := by omega
                rcases hrz with h | ⟨zb, zo, hva, hzc⟩
                · rw [h] at hll; exact absurd hll (Nat.not_lt_zero _)
                have hvl9 := HVV.out
                rcases hiv with h | ⟨vb, vo, hua, hvc⟩
                · rw [h] at hvl9; simp at hvl9; omega
                rw [hva] at a2
                obtain ⟨ai, ci, d1, i1⟩ := hzc k2 hll
                have d2 := hvc k2 (by omega)
                have hk9 : (k2 : Int) < (vals9.length : Int) := by omega
                have e1 : (nthL z k2).length = n := by have := (HM.out.2.2.2 k2 hll).1; omega
                rw [e1] at d1
                have l1 := World.block_lt_of_cell? _ _ d1
                have l2 := World.block_lt_of_cell? _ _ d2
                have I1 := Lib.hid i1
                have I2 := Lib.hid HIS.out
                generalize hx0 : nth vals9 k2 = x at *
                have HD := Lib.hid (show ∀ (W : World), Ints W ai (nthL z k2) → Ints W sa sol → Calls Try.prog 10 #[.int .i64 p, .slice ai n ci, .slice sa n sc] W fun e w' => e = .returned (.int .i64 x) ∧ Quiet W w' from fun W h1 h2 => by
                  have h0 := a2Dot_any p ai sa (nthL z k2) sol ci sc n W h1 h2 e1 HSL.out (by omega) hp0 hp1 (HM.out.2.2.2 k2 hll).2 HSE.out
                  rw [HSD.out k2 hll, hx0] at h0
                  exact h0)
                subst hua
                clear hzc hvc i1 e1 hx0 hva hvl9
                go_wp2_with fail
                go_quiet ((go_at_call 10; exact Calls.quiet_of (HD.out _ (I1.out.quiet ⟨_, rfl⟩) ((I2.out.quiet HQ1.out).quiet ⟨_, rfl⟩))))
                go_wp2_with fail
                go_roundw
                case rel => exact ⟨k2 + 1, by omega, by go_num, HQ1.out.trans ⟨_, rfl⟩⟩
                case measure => simp [intOf]; omega
              · have hl0 : ¬ (k2 : Int) < (z.length : Int) := by omega
                clear hrz hiv
                go_wp2_with fail
                go_ret
                exact ⟨rfl, chain HBW2.out (quiet_below HQ1.out)⟩

theorem own : ownKnob Try.prog.godebug = none := by kernel_rfl
theorem laidOut : laidOutB Try.prog = true := by kernel_rfl

set_option maxRecDepth 100000 in
theorem lifted (os : Os) (started : os.Started) (H : Type) (enc : TypeId × Value → H) :
    ReturnsInHanded {} Try.checked os 3 .any (Rows.fnCombinationSpec.pre6 enc Try.prog Try.f3 Rows.fnCombinationRow.domain false) (Rows.fnCombinationSpec.post enc Try.prog Try.f3 false true false false) := by
  refine returnsInHanded_of_change (C := Try.checked) own started (by kernel_rfl) Try.func3
    (ChangeSpec.witness6 (enc := enc) (C := Try.checked) false ⟨#[], #[.slice none 0 0, .slice none 0 0], []⟩ 8 (by kernel_rfl) (by kernel_rfl) (by kernel_rfl) (by kernel_rfl)) ?_
  intro W base args ds gs before hval0 hW hcnd _
  have hval : ∀ (j : Nat) t v, Try.f3.params[j]? = some t → args[j]? = some v → Value.okWide Try.prog W .any base t v := hval0
  have hW' := hW
  obtain ⟨p, q, hA0, hV, rfl, hfz, hnd⟩ := hW
  have hA : DataW.TrodAll enc Try.prog W 0 (fun _ => true) true Try.f3.params.toList args.toList ds p := hA0
  rw [Try.params3] at hA hval
  obtain ⟨v0, vs0, d0, ds0, p0, q0, hargs, rfl, rfl, h0, r0⟩ := trodAll_cons hA
  obtain ⟨v1, vs1, d1, ds1, p1, q1, rfl, rfl, rfl, h1, r1⟩ := trodAll_cons r0
  obtain ⟨rfl, rfl, rfl⟩ := trodAll_nil r1
  obtain rfl : args = #[v0, v1] := by cases args; simp_all
  obtain ⟨rfl, rfl⟩ := trodVars_none hV
  have k0 := h0
  have lt0 : ∀ x ∈ p0, x.block < W.heap.size := by obtain ⟨m, hm⟩ := k0; exact DataW.trod_lt m _ _ _ hm
  obtain ⟨a0, len0, c0, rfl⟩ := okWide_slice Try.underlying22 (hval 0 22 v0 rfl rfl)
  obtain ⟨fuel0, hf0⟩ := h0
  obtain ⟨z0, rfl, rr0, ll0⟩ := open_bytes1 (by simpa [Value.cells] using hf0)
  have k1 := h1
  have lt1 : ∀ x ∈ p1, x.block < W.heap.size := by obtain ⟨m, hm⟩ := k1; exact DataW.trod_lt m _ _ _ hm
  obtain ⟨a1, len1, c1, rfl⟩ := okWide_slice Try.underlying22 (hval 1 22 v1 rfl rfl)
  obtain ⟨fuel1, hf1⟩ := h1
  obtain ⟨z1, rfl, rr1, ll1⟩ := open_bytes1 (by simpa [Value.cells] using hf1)
  clear hA0 hval0
  refine (law a0 z0 c0 a1 z1 c1 W rr0 ll0 rr1 ll1).mono fun e W' ⟨he, bel⟩ => ?_
  subst he
  exact ⟨_, rfl, _, _, _, [], _, [], hW', trodAll_mk1 (shut_bool Try.underlying4 _), (trodAll_cons_mk (Below.trod laidOut (by kernel_rfl) (of_decide_eq_true (by kernel_rfl)) k0 bel lt0) (trodAll_cons_mk (Below.trod laidOut (by kernel_rfl) (of_decide_eq_true (by kernel_rfl)) k1 bel lt1) trodAll_mk0)), rfl, bel.frame _, fun h => by cases h⟩

theorem over : Rows.fnCombinationRow.holds Try.pinned (OpenSpec.ofChange Rows.fnCombinationSpec) :=
  OpenClaim.holds_of_wide 3 Try.f3 rfl rfl rfl rfl rfl rfl rfl ⟨rfl, rfl, rfl, rfl, rfl⟩ rfl rfl rfl rfl rfl (by kernel_rfl) Try.func3 (by kernel_rfl)
    (of_decide_eq_true (by kernel_rfl)) (by unfold Func.isWrapper; first | (rw [if_pos (by decide +kernel)]; kernel_rfl) | (rw [if_neg (by decide +kernel)]; exact ⟨rfl, rfl⟩))
    (fun os started H enc _ => lifted os started H enc)

theorem proved : Rows.FnCombinationSaid := over

end Comb
end Go.Proofs.Ytpifgapogbbcnaa

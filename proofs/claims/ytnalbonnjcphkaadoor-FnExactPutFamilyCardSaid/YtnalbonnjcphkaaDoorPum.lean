/- PutFamily, the model's. -/
import Derived.Test.YtnalbonnjcphkaaDoorMin
namespace Go.Proofs.YtnalbonnjcphkaaDoor
open Go.RowKit Go.Deep Go.Shelf
set_option linter.unusedVariables false

theorem put_f1 : ∀ k : Nat, k < 7 → ∀ x : Nat, x < 128 → bits BinOp.and IntKind.i64 (x : Int) ((2 ^ k - 1 : Nat) : Int) = (lowN k x : Nat) := by decide +kernel
theorem low_lt : ∀ k : Nat, k < 7 → ∀ x : Nat, x < 128 → lowN k x < 2 ^ k := by decide +kernel
/-- What opens with a family in place of a holder. -/
def putN (j k : Nat) (z2 : List (List Int)) (x : Nat) : Nat := minN (tblAt z2 z2.length (x / 2 ^ k)) j (lowN k x)
def putB (j k : Nat) (z1 z2 : List (List Int)) (x : Nat) : Bool := tblAt z1 z1.length (putN j k z2 x)
theorem putN_lt {j k : Nat} (z2 : List (List Int)) {x : Nat} (hk : k < 7) (hj : j ≤ k) (hx : x < 128) : putN j k z2 x < 2 ^ (k + 1) :=
  minN_lt _ (by omega) (by omega) (by rw [Nat.add_sub_cancel]; exact low_lt k hk x hx)
noncomputable def putOf (h1 : Int) (z1 : List (List Int)) (j : Int) (h2 : Int) (z2 : List (List Int)) : FR :=
  if tell (FamOk h1 z1 ∧ FamOk h2 z2) = true then (if 0 ≤ j ∧ j < h1 then (if h1 - 1 + h2 ≤ 7 then ⟨h1 - 1 + h2, famOf (h1 - 1 + h2).toNat (putB j.toNat (h1 - 1).toNat z1 z2), 0⟩ else noFam 3) else noFam 2) else noFam 1
theorem put_bad {h1 : Int} {z1 : List (List Int)} {j : Int} {h2 : Int} {z2 : List (List Int)} (k : ¬ (FamOk h1 z1 ∧ FamOk h2 z2)) : putOf h1 z1 j h2 z2 = noFam 1 := by rw [putOf, if_neg (by rw [tell_false k]; simp)]
theorem put_out {h1 : Int} {z1 : List (List Int)} {j : Int} {h2 : Int} {z2 : List (List Int)} (k : FamOk h1 z1 ∧ FamOk h2 z2) (r : ¬ (0 ≤ j ∧ j < h1)) : putOf h1 z1 j h2 z2 = noFam 2 := by rw [putOf, if_pos (tell_true k), if_neg r]
theorem put_much {h1 : Int} {z1 : List (List Int)} {j : Int} {h2 : Int} {z2 : List (List Int)} (k : FamOk h1 z1 ∧ FamOk h2 z2) (r : 0 ≤ j ∧ j < h1) (q : ¬ h1 - 1 + h2 ≤ 7) : putOf h1 z1 j h2 z2 = noFam 3 := by rw [putOf, if_pos (tell_true k), if_pos r, if_neg q]
theorem put_yes {h1 : Int} {z1 : List (List Int)} {i k t : Nat} {h2 : Int} {z2 : List (List Int)} (f : FamOk h1 z1 ∧ FamOk h2 z2) (r : (i : Int) < h1) (hk : h1 - 1 = (k : Int)) (ht : (k : Int) + h2 = (t : Int)) (q : t ≤ 7) :
    putOf h1 z1 (i : Int) h2 z2 = ⟨(t : Int), famOf t (putB i k z1 z2), 0⟩ := by
  rw [putOf, if_pos (tell_true f), if_pos ⟨by omega, r⟩, hk, ht, if_pos (by omega), Int.toNat_natCast, Int.toNat_natCast, Int.toNat_natCast]
theorem put_small (h1 : Int) (z1 : List (List Int)) (j : Int) (h2 : Int) (z2 : List (List Int)) : Small2 (putOf h1 z1 j h2 z2).zss := by
  have hn : ∀ c, Small2 (noFam c).zss := fun c => lens_small (by simp [noFam]) (by simp [noFam])
  unfold putOf
  split
  · rename_i q
    have := (of_tell q).1.1
    have := (of_tell q).2.1
    split
    · split
      · exact famOf_small (by omega) _
      · exact hn _
    · exact hn _
  · exact hn _

set_option maxHeartbeats 4000000 in
set_option maxRecDepth 100000 in
theorem specPu_any (h1 : Int) (a1 : Option Addr) (z1 : List (List Int)) (c1 : Nat) (j : Int) (h2 : Int) (a2 : Option Addr) (z2 : List (List Int)) (c2 : Nat) (w : World) (hr1 : Rows2 w a1 z1) (hs1 : Small2 z1) (hr2 : Rows2 w a2 z2) (hs2 : Small2 z2) :
    Calls Tryd.prog 23 #[.agg #[.int .i64 h1, .slice a1 z1.length c1], .int .i64 j, .agg #[.int .i64 h2, .slice a2 z2.length c2]] w (GivesFC w (putOf h1 z1 j h2 z2)) := by
  have hB1 := ((Below.refl w.heap.size w).alloc (Nat.le_refl _) (.cells #[.int .i64 h1, .slice a1 z1.length c1] 26)).alloc (by simp) (.cells #[.int .i64 h2, .slice a2 z2.length c2] 26)
  have hB2 := hB1.alloc (by simp; omega) (.cells #[.int .i64 0, .slice none 0 0] 26)
  have hx1 : FamBox (((w.alloc (.cells #[.int .i64 h1, .slice a1 z1.length c1] 26)).alloc (.cells #[.int .i64 h2, .slice a2 z2.length c2] 26)).alloc (.cells #[.int .i64 0, .slice none 0 0] 26)) w.heap.size h1 a1 z1.length c1 := ⟨by simp [go_sem], by simp [go_sem]⟩
  have hx2 : FamBox (((w.alloc (.cells #[.int .i64 h1, .slice a1 z1.length c1] 26)).alloc (.cells #[.int .i64 h2, .slice a2 z2.length c2] 26)).alloc (.cells #[.int .i64 0, .slice none 0 0] 26)) (w.heap.size + 1) h2 a2 z2.length c2 := ⟨by simp [go_sem], by simp [go_sem]⟩
  have hF0 : Boxes1 (((w.alloc (.cells #[.int .i64 h1, .slice a1 z1.length c1] 26)).alloc (.cells #[.int .i64 h2, .slice a2 z2.length c2] 26)).alloc (.cells #[.int .i64 0, .slice none 0 0] 26)) (w.heap.size + 1 + 1) := by
    have := World.alloc_heap_new ((w.alloc (.cells #[.int .i64 h1, .slice a1 z1.length c1] 26)).alloc (.cells #[.int .i64 h2, .slice a2 z2.length c2] 26)) (.cells #[.int .i64 0, .slice none 0 0] 26)
    simpa [Boxes1] using this
  have A1 := Lib.hid (hr1.step hB2)
  have A2 := Lib.hid (hr2.step hB2)
  have L1 := Lib.hid hs1.lens
  have L2 := Lib.hid hs2.lens
  have X1 := Lib.hid hx1
  have X2 := Lib.hid hx2
  have HB := Lib.hid hB2
  have HF := Lib.hid hF0
  clear hr1 hr2 hs1 hs2 hB1 hB2 hx1 hx2 hF0
  by_cases k1 : FamOk h1 z1
  case neg =>
    have HT := Lib.hid (tell_false k1)
    have HV := Lib.hid (put_bad (j := j) (h2 := h2) (z2 := z2) (fun k => k1 k.1))
    clear k1
    go_enter Tryd.func23, Tryd.ntmps23
    go_wp2_with fail
    generalize ((w.alloc (.cells #[.int .i64 h1, .slice a1 z1.length c1] 26)).alloc (.cells #[.int .i64 h2, .slice a2 z2.length c2] 26)).alloc (.cells #[.int .i64 0, .slice none 0 0] 26) = w1 at *
    refine (l01Ok_any w.heap.size h1 a1 z1 c1 w1 X1.out A1.out L1.out).mono ?_
    rintro e w2 ⟨rfl, hq⟩
    rw [HT.out]
    have hf' := HF.out.step (quiet_below hq)
    have c0 := hf'.c0
    have c1 := hf'.c1
    have g0 := hf'.f 0
    have g1 := hf'.f 1
    have HB2 := Lib.hid (chain HB.out (quiet_below hq))
    clear hq hf'
    go_wp2_with fail
    refine bodyPost_ret (v := .tuple #[.agg #[.int .i64 0, .slice none 0 0], .int .i64 1]) (by simp [results, Tryd.results23, go_sem, c0, c1]) rfl ?_
    rw [HV.out]
    exact GivesFC.no _ ((HB2.out.setCell (by simp <;> omega) _).setCell (by simp <;> omega) _)
  have T1 := Lib.hid (tell_true k1)
  by_cases k2 : FamOk h2 z2
  case neg =>
    have HT := Lib.hid (tell_false k2)
    have HV := Lib.hid (put_bad (j := j) (h1 := h1) (z1 := z1) (fun k => k2 k.2))
    clear k1 k2
    go_enter Tryd.func23, Tryd.ntmps23
    go_wp2_with fail
    generalize ((w.alloc (.cells #[.int .i64 h1, .slice a1 z1.length c1] 26)).alloc (.cells #[.int .i64 h2, .slice a2 z2.length c2] 26)).alloc (.cells #[.int .i64 0, .slice none 0 0] 26) = w1 at *
    refine (l01Ok_any w.heap.size h1 a1 z1 c1 w1 X1.out A1.out L1.out).mono ?_
    rintro e w2 ⟨rfl, hq⟩
    rw [T1.out]
    have HF2 := Lib.hid (HF.out.step (quiet_below hq))
    have HB2 := Lib.hid (chain HB.out (quiet_below hq))
    have X3 := Lib.hid (X2.out.below (quiet_below hq) (Nat.le_refl _))
    have A3 := Lib.hid (A2.out.step (quiet_below hq))
    clear hq
    go_wp2_with fail
    refine (l01Ok_any (w.heap.size + 1) h2 a2 z2 c2 w2 X3.out A3.out L2.out).mono ?_
    rintro e w3 ⟨rfl, hq⟩
    rw [HT.out]
    have hf' := HF2.out.step (quiet_below hq)
    have c0 := hf'.c0
    have c1 := hf'.c1
    have g0 := hf'.f 0
    have g1 := hf'.f 1
    have HB3 := Lib.hid (chain HB2.out (quiet_below hq))
    clear hq hf'
    go_wp2_with fail
    refine bodyPost_ret (v := .tuple #[.agg #[.int .i64 0, .slice none 0 0], .int .i64 1]) (by simp [results, Tryd.results23, go_sem, c0, c1]) rfl ?_
    rw [HV.out]
    exact GivesFC.no _ ((HB3.out.setCell (by simp <;> omega) _).setCell (by simp <;> omega) _)
  have T2 := Lib.hid (tell_true k2)
  have KK := Lib.hid (And.intro k1 k2)
  have hh1 : 1 ≤ h1 := k1.1.1
  have hh7 : h1 ≤ 7 := k1.1.2
  have gh1 : 1 ≤ h2 := k2.1.1
  have gh7 : h2 ≤ 7 := k2.1.2
  clear k1 k2
  obtain ⟨m, rfl⟩ : ∃ m : Nat, h1 = (m : Int) := ⟨h1.toNat, by omega⟩
  obtain ⟨n, rfl⟩ : ∃ n : Nat, h2 = (n : Int) := ⟨h2.toNat, by omega⟩
  obtain ⟨k, hk⟩ : ∃ k : Nat, (m : Int) - 1 = (k : Int) := ⟨m - 1, by omega⟩
  obtain ⟨t, ht⟩ : ∃ t : Nat, (k : Int) + (n : Int) = (t : Int) := ⟨k + n, by omega⟩
  have HK := Lib.hid hk
  have HTN := Lib.hid ht
  go_enter Tryd.func23, Tryd.ntmps23
  go_wp2_with fail
  generalize ((w.alloc (.cells #[.int .i64 (m : Int), .slice a1 z1.length c1] 26)).alloc (.cells #[.int .i64 (n : Int), .slice a2 z2.length c2] 26)).alloc (.cells #[.int .i64 0, .slice none 0 0] 26) = w1 at *
  refine (l01Ok_any w.heap.size (m : Int) a1 z1 c1 w1 X1.out A1.out L1.out).mono ?_
  rintro e w2 ⟨rfl, hq⟩
  rw [T1.out]
  have HF2 := Lib.hid (HF.out.step (quiet_below hq))
  have HB2 := Lib.hid (chain HB.out (quiet_below hq))
  have X3 := Lib.hid (X1.out.below (quiet_below hq) (Nat.le_refl _))
  have X4 := Lib.hid (X2.out.below (quiet_below hq) (Nat.le_refl _))
  have A3 := Lib.hid (A1.out.step (quiet_below hq))
  have A4 := Lib.hid (A2.out.step (quiet_below hq))
  clear hq X1 X2 A1 A2 HF HB
  go_wp2_with fail
  refine (l01Ok_any (w.heap.size + 1) (n : Int) a2 z2 c2 w2 X4.out A4.out L2.out).mono ?_
  rintro e w3 ⟨rfl, hq⟩
  rw [T2.out]
  have hdq := quiet_below hq
  have HF3 := Lib.hid (HF2.out.step hdq)
  have HB3 := Lib.hid (chain HB2.out hdq)
  have X5 := Lib.hid (X3.out.below hdq (Nat.le_refl _))
  have X6 := Lib.hid (X4.out.below hdq (Nat.le_refl _))
  have A5 := Lib.hid (A3.out.step hdq)
  have A6 := Lib.hid (A4.out.step hdq)
  have p0 := X5.out.1
  have q0 := X6.out.1
  have cc0 := HF3.out.c0
  have cc1 := HF3.out.c1
  have g0 := HF3.out.f 0
  have g1 := HF3.out.f 1
  clear hq hdq X3 X4 A3 A4 HF2 HB2
  by_cases hj : 0 ≤ j ∧ j < (m : Int)
  case neg =>
    have t1 := Lib.hid (show (decide ((0 : Int) ≤ j) && decide (j ≤ (k : Int))) = false by simp; omega)
    have HV := Lib.hid (put_out KK.out hj)
    clear hj
    go_wp2_with fail
    refine (l00In_val j 0 (k : Int) false _ t1.out).mono ?_
    rintro e w' ⟨rfl, rfl⟩
    go_wp2_with fail
    refine bodyPost_ret (v := .tuple #[.agg #[.int .i64 0, .slice none 0 0], .int .i64 2]) (by simp [results, Tryd.results23, go_sem, cc0, cc1]) rfl ?_
    rw [HV.out]
    exact GivesFC.no _ ((HB3.out.setCell (by simp <;> omega) _).setCell (by simp <;> omega) _)
  have t1 := Lib.hid (show (decide ((0 : Int) ≤ j) && decide (j ≤ (k : Int))) = true by simp; omega)
  by_cases ht7 : t ≤ 7
  case neg =>
    have HV := Lib.hid (put_much KK.out hj (by rw [HK.out, HTN.out]; omega))
    have h7 : (7 : Int) < (t : Int) := by omega
    clear hj ht7
    go_wp2_with fail
    refine (l00In_val j 0 (k : Int) true _ t1.out).mono ?_
    rintro e w' ⟨rfl, rfl⟩
    go_wp2_with fail
    refine bodyPost_ret (v := .tuple #[.agg #[.int .i64 0, .slice none 0 0], .int .i64 3]) (by simp [results, Tryd.results23, go_sem, cc0, cc1]) rfl ?_
    rw [HV.out]
    exact GivesFC.no _ ((HB3.out.setCell (by simp <;> omega) _).setCell (by simp <;> omega) _)
  obtain ⟨i, rfl⟩ : ∃ i : Nat, j = (i : Int) := ⟨j.toNat, by omega⟩
  have hik : i ≤ k := by omega
  have hk7 : k < 7 := by omega
  have HV := Lib.hid (put_yes KK.out hj.2 HK.out HTN.out ht7)
  have htn : t = k + n := by omega
  have hmk : m = k + 1 := by omega
  obtain ⟨N, hN⟩ : ∃ N, N = 2 ^ t := ⟨_, rfl⟩
  obtain ⟨N1, hN1⟩ : ∃ N1, N1 = 2 ^ m := ⟨_, rfl⟩
  obtain ⟨N2, hN2⟩ : ∃ N2, N2 = 2 ^ n := ⟨_, rfl⟩
  have hN128 : N ≤ 128 := by rw [hN]; exact Nat.pow_le_pow_right (by decide) ht7
  have hpow : wrap64 ((2 : Int) ^ t) = (N : Int) := by rw [wrap64_two ht7, hN]
  have HN := Lib.hid hN
  have HN1 := Lib.hid hN1
  have HN2 := Lib.hid hN2
  have HNN := Lib.hid (show N = 2 ^ k * N2 by rw [hN, hN2, htn, Nat.pow_add])
  have HMK := Lib.hid hmk
  have hmsk1 := mask_i k hk7
  have hmsk2 := mask_i i (by omega)
  obtain ⟨i0, hi, hz0, hz1, hz2⟩ := info_parts Tryd.infoBool
  clear hj hN hN1 hN2 htn hmk
  go_wp2_with fail
  refine (l00In_val (i : Int) 0 (k : Int) true _ t1.out).mono ?_
  rintro e w' ⟨rfl, rfl⟩
  go_wp2_with fail
  refine (l01Table_any m N1 w.heap.size a1 z1 c1 w3 (by omega) (by omega) HN1.out X5.out A5.out L1.out (fun i hi => (KK.out.1.2.1 i hi).1)).mono ?_
  rintro e w4 ⟨rfl, hbo, hb⟩
  have HF4 := Lib.hid (HF3.out.step hb)
  have HB4 := Lib.hid (chain HB3.out hb)
  have X7 := Lib.hid (X5.out.below hb (Nat.le_refl _))
  have X8 := Lib.hid (X6.out.below hb (Nat.le_refl _))
  have A8 := Lib.hid (A6.out.step hb)
  have O1 := Lib.hid hbo
  clear hbo hb X5 X6 A5 A6 HF3 HB3 p0 q0 cc0 cc1 g0 g1
  generalize w3.heap.size = tb1 at *
  go_wp2_with fail
  refine (l01Table_any n N2 (w.heap.size + 1) a2 z2 c2 w4 (by omega) (by omega) HN2.out X8.out A8.out L2.out (fun i hi => (KK.out.2.2.1 i hi).1)).mono ?_
  rintro e w5 ⟨rfl, hbo, hb⟩
  have HF5 := Lib.hid (HF4.out.step hb)
  have HB5 := Lib.hid (chain HB4.out hb)
  have X9 := Lib.hid (X7.out.below hb (Nat.le_refl _))
  have O3 := Lib.hid (O1.out.step hb)
  have O4 := Lib.hid hbo
  clear hbo hb X7 X8 A8 HF4 HB4 O1
  generalize w4.heap.size = tb2 at *
  go_wp2_with fail
  have hR0 : (w5.alloc (.cells #[] 4)).ownsRow w5.heap.size 4 1 (.slice (some ⟨w5.heap.size, 0, none⟩) 0 0) 0 [] := by
    have := World.ownsRow_made w5 #[] 0 (e := 4) (size := 1) (Nat.le_refl _) (by unfold maxLen; omega) rfl
    simpa using this
  have hB6 := (Below.refl w5.heap.size w5).alloc (Nat.le_refl _) (.cells #[] 4)
  generalize w5.alloc (.cells #[] 4) = w6 at *
  go_loopw [11, 12, 13, 14] (fun v ix _ _ wr => ∃ (x g cap : Nat), x ≤ N ∧ ix = .int .i64 x ∧ v = .slice (some ⟨g, 0, none⟩) x cap ∧ wr.ownsRow w5.heap.size 4 1 (.slice (some ⟨g, 0, none⟩) x cap) x (bools (putB i k z1 z2) x) ∧ Below w5.heap.size w5 wr)
    (fun _ ix _ _ _ => N - (intOf ix).toNat)
  case atStart => exact ⟨0, _, _, by omega, rfl, rfl, hR0, hB6⟩
  case round =>
    obtain ⟨x, g, cap, hx, rfl, rfl, hrow, hbel⟩ := hrel
    clear hR0 hB6
    have HR := Lib.hid hrow
    have HW := Lib.hid hbel
    have hszr := hbel.size
    by_cases hlt : x < N
    · have hxi : (x : Int) < (N : Int) := by omega
      have hx128 : x < 128 := by omega
      have p0 := (X9.out.below hbel (Nat.le_refl _)).1
      obtain ⟨bb, oo, he, hc1⟩ := O3.out.step hbel
      cases he
      obtain ⟨bb, oo, he, hc2⟩ := O4.out.step hbel
      cases he
      have hy2 : x / 2 ^ k < N2 := by
        refine Nat.div_lt_of_lt_mul ?_
        rw [← HNN.out]; exact hlt
      have hzb : putN i k z2 x < N1 := by
        rw [HN1.out, HMK.out]; exact putN_lt z2 hk7 hik hx128
      have cellA : wr.cell? ⟨tb2, x / 2 ^ k, none⟩ = some (.bool (tblAt z2 z2.length (x / 2 ^ k))) := by simpa using hc2 _ hy2
      have cellB : wr.cell? ⟨tb1, putN i k z2 x, none⟩ = some (.bool (putB i k z1 z2 x)) := by simpa [putB] using hc1 _ hzb
      have f0 := put_f1 k hk7 x hx128
      have hlow : lowN k x < 64 := Nat.lt_of_lt_of_le (low_lt k hk7 x hx128) (Nat.pow_le_pow_right (by decide) (by omega : k ≤ 6) : 2 ^ k ≤ 2 ^ 6)
      have HPN := Lib.hid (show putN i k z2 x = minN (tblAt z2 z2.length (x / 2 ^ k)) i (lowN k x) from rfl)
      rw [HPN.out] at hzb cellB
      have hshr : (x : Int) / 2 ^ k = ((x / 2 ^ k : Nat) : Int) := by simp
      have HBS := Lib.hid (bools_succ (putB i k z1 z2) x)
      clear hc1 hc2 hrow
      generalize lowN k x = low at *
      generalize x / 2 ^ k = y at *
      have f1 := min_f1 i (by omega) low hlow
      have f2 := min_f2 i (by omega) low hlow
      have f3 := min_f3 i (by omega) low hlow
      have f4 := min_f4 i (by omega) low hlow
      have f5 := high_lt i (by omega) low hlow
      have hyi : (y : Int) < (N2 : Int) := by omega
      generalize 2 ^ i - 1 = M2 at *
      generalize 2 ^ k - 1 = M1 at *
      generalize lowN i low = lo at *
      generalize highN i low = hi' at *
      generalize putB i k z1 z2 x = p at *
      cases hb : tblAt z2 z2.length y with
      | false =>
        have he : minN false i low = wideN i low := by unfold minN; simp
        rw [hb, he] at cellB hzb
        rw [hb] at cellA
        have hzi : ((wideN i low : Nat) : Int) < (N1 : Int) := by omega
        clear he f4 hb
        generalize wideN i low = z at *
        go_wp2_with (at_builtin; refine wpList_append_own _ rfl _ _ 65 rfl w5.heap.size 4 i0 (.bool false) 1 1 Tryd.underlying65 hi hz0 hz1 hz2 rfl (by decide) _ _ _ rfl (World.ownsRow.alloc HR.out _) ⟨wr.heap.size, 0, none⟩ 1 1 [.bool p] rfl rfl (cell_one_new _ _ _) (by simp [Value.oneCell']) (by unfold maxLen; omega) (by omega) (by simp; omega) ?_; intro v' w1 hown2 hgrow2 _; obtain ⟨g', cap', rfl⟩ := ownsRow_succ hown2; have HO2 := Lib.hid hown2; have HG2 := Lib.hid hgrow2; clear hown2 hgrow2)
        go_wp2
        go_roundw
        case rel =>
          refine ⟨x + 1, g', cap', by omega, by go_num, rfl, ?_, ?_⟩
          · rw [HBS.out]; exact HO2.out
          · exact (HW.out.alloc hszr _).grown HG2.out (by simp; omega) (fun q hq => by have := (World.ownsRow.lt HR.out q hq).1; omega)
        case measure => simp [intOf]; omega
      | true =>
        have he : minN true i low = wideN i low ||| 2 ^ i := by unfold minN; simp
        rw [hb, he] at cellB hzb
        rw [hb] at cellA
        clear he hb
        generalize wideN i low ||| 2 ^ i = z at *
        generalize wideN i low = yw at *
        have hzi : (z : Int) < (N1 : Int) := by omega
        go_wp2_with (at_builtin; refine wpList_append_own _ rfl _ _ 65 rfl w5.heap.size 4 i0 (.bool false) 1 1 Tryd.underlying65 hi hz0 hz1 hz2 rfl (by decide) _ _ _ rfl (World.ownsRow.alloc HR.out _) ⟨wr.heap.size, 0, none⟩ 1 1 [.bool p] rfl rfl (cell_one_new _ _ _) (by simp [Value.oneCell']) (by unfold maxLen; omega) (by omega) (by simp; omega) ?_; intro v' w1 hown2 hgrow2 _; obtain ⟨g', cap', rfl⟩ := ownsRow_succ hown2; have HO2 := Lib.hid hown2; have HG2 := Lib.hid hgrow2; clear hown2 hgrow2)
        go_wp2
        go_roundw
        case rel =>
          refine ⟨x + 1, g', cap', by omega, by go_num, rfl, ?_, ?_⟩
          · rw [HBS.out]; exact HO2.out
          · exact (HW.out.alloc hszr _).grown HG2.out (by simp; omega) (fun q hq => by have := (World.ownsRow.lt HR.out q hq).1; omega)
        case measure => simp [intOf]; omega
    · have HKE := Lib.hid (show x = N by omega)
      have hto : Bools wr (some ⟨g, 0, none⟩) x (putB i k z1 z2) := Bools.of_row HR.out
      rw [HKE.out] at hto
      have HTT := Lib.hid hto
      have HF6 := Lib.hid (HF5.out.step hbel)
      have HB6 := Lib.hid (chain HB5.out hbel)
      clear hto hrow hbel
      go_wp2_with fail
      rw [HKE.out]
      refine (l01From_any t N cap _ (putB i k z1 z2) wr (by omega) ht7 HN.out HTT.out).mono ?_
      rintro e w' ⟨⟨a9, c9, rfl, hrows, hlens⟩, hb⟩
      have hszw := HF6.out.lt
      have hf' := HF6.out.step hb
      have c0 := hf'.c0
      have c1' := hf'.c1
      have f0 := hf'.f 0
      have f1 := hf'.f 1
      have HRR := Lib.hid hrows
      have HB7 := Lib.hid (chain HB6.out hb)
      have hle : w.heap.size ≤ wr.heap.size := HB6.out.size
      clear hrows hlens hb hf'
      generalize famOf t (putB i k z1 z2) = Z at *
      go_wp2_with fail
      refine bodyPost_ret (v := .tuple #[.agg #[.int .i64 (t : Nat), .slice a9 Z.length c9], .int .i64 0]) (by simp [results, Tryd.results23, go_sem, c0, c1']) rfl ?_
      rw [HV.out]
      exact ⟨⟨a9, c9, rfl, ((HRR.out.set hszw 0 _).set hszw 1 _).mono hle⟩, (HB7.out.setCell (by simp <;> omega) _).setCell (by simp <;> omega) _⟩
end Go.Proofs.YtnalbonnjcphkaaDoor

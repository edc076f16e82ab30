/- The contracts of ValidCurve, the program's and the model's, of l05Prime, l05Residues and l05Curve. -/
import Derived.Test.YtgndekojodpmkaaDoorPrm
namespace Go.Proofs.YtgndekojodpmkaaDoor
open Go.RowKit Go.Deep
set_option linter.unusedVariables false

/-- A curve. -/
def CurveOk (p : Int) (zs : List Int) : Prop := Prm p ∧ zs.length ≤ 7 ∧ Elems p zs ∧ (zs.length = 0 ∨ nth zs (zs.length - 1) ≠ 0)

theorem roots_all : ((List.range 32).all fun p => (decide (p < 2) || ((List.range 7).any fun d => (decide (2 ≤ d) && decide (d * d ≤ p) && p % d == 0)) || (List.range p).all fun d => (decide (d < 2) || p % d != 0))) = true := by decide +kernel
theorem roots_nat (p : Nat) (hp : p < 32) (h2 : 2 ≤ p) (hd : ∀ d : Nat, d < 7 → 2 ≤ d → d * d ≤ p → p % d ≠ 0) (d : Nat) (h1 : d < p) (h3 : 2 ≤ d) : p % d ≠ 0 := by
  have h := List.all_eq_true.mp roots_all p (by simpa using hp)
  simp only [Bool.or_eq_true, decide_eq_true_eq, List.any_eq_true, List.all_eq_true, List.mem_range, Bool.and_eq_true, beq_iff_eq, bne_iff_ne] at h
  rcases h with (h | ⟨e, he, ⟨h4, h5⟩, h6⟩) | h
  · omega
  · exact absurd h6 (hd e he h4 h5)
  · rcases h d h1 with h | h
    · omega
    · exact h
theorem prm_roots {p k : Int} (h1 : 2 ≤ p) (h2 : p ≤ 31) (hk : p < k * k) (hk2 : 2 ≤ k) (hno : ∀ d : Int, 2 ≤ d → d < k → p % d ≠ 0) : Prm p := by
  obtain ⟨n, rfl⟩ : ∃ n : Nat, p = n := ⟨p.toNat, by omega⟩
  refine ⟨h1, h2, fun d g1 g2 => ?_⟩
  obtain ⟨e, rfl⟩ : ∃ e : Nat, d = e := ⟨d.toNat, by omega⟩
  have := roots_nat n (by omega) (by omega) ?_ e (by omega) (by omega)
  · intro h; apply this; omega
  · intro d q1 q2 q3 h
    by_cases q : (d : Int) < k
    · exact hno d (by omega) q (by omega)
    · have a1 : k ≤ (d : Int) := by omega
      have a2 : k * k ≤ (d : Int) * d := Int.mul_le_mul a1 a1 (by omega) (by omega)
      have a3 : ((d * d : Nat) : Int) ≤ (n : Int) := by exact_mod_cast q3
      rw [Int.natCast_mul] at a3
      omega

theorem small_root {p k : Int} (h2 : p ≤ 31) (hk2 : 2 ≤ k) (hk6 : k ≤ 6) (hle : k * k ≤ p) : k ≤ 5 ∧ k < p := by
  have : k = 2 ∨ k = 3 ∨ k = 4 ∨ k = 5 ∨ k = 6 := by omega
  rcases this with rfl | rfl | rfl | rfl | rfl <;> omega

set_option maxRecDepth 100000 in
set_option maxHeartbeats 400000 in
theorem l05Prime_any (p : Int) (w : World) : Calls Tryd.prog 53 #[.int .i64 p] w fun e w' => e = .returned (.bool (tell (Prm p))) ∧ w = w' := by
  by_cases h1 : 2 ≤ p ∧ p ≤ 31
  · have t1 := Lib.hid (show (decide (2 ≤ p) && decide (p ≤ 31)) = true by simp; omega)
    have g1 : 2 ≤ p := h1.1
    have g2 : p ≤ 31 := h1.2
    clear h1
    go_enter Tryd.func53, Tryd.ntmps53
    go_wp2_with fail
    refine (l00In_val _ 2 31 true _ t1.out).mono ?_
    rintro e w' ⟨rfl, rfl⟩
    go_wp2
    go_loop [3] (fun d => ∃ k : Int, d = .int .i64 k ∧ 2 ≤ k ∧ k ≤ 6 ∧ ∀ d : Int, 2 ≤ d → d < k → p % d ≠ 0)
      (fun d => (7 - intOf d).toNat)
    case atStart => exact ⟨2, rfl, by omega, by omega, fun d h1 h2 => by omega⟩
    case round =>
      obtain ⟨k, rfl, hk2, hk6, hno⟩ := hrel
      have HN := Lib.hid hno
      clear hno
      have m0 : 0 ≤ k * k := Int.mul_nonneg (by omega) (by omega)
      have m1 : k * k ≤ 36 := Int.mul_le_mul hk6 hk6 (by omega) (by omega)
      by_cases hlt : k * k ≤ p
      · have hk0 : k ≠ 0 := by omega
        have hk0' : (k == 0) = false := by simp; omega
        by_cases hd : p % k = 0
        · have HD := Lib.hid hd
          have hd' : (p % k == 0) = true := by simp [hd]
          have HX := Lib.hid (small_root g2 hk2 hk6 hlt)
          clear hd
          go_wp2
          go_ret
          exact ⟨ret_bool (tell_false (prm_no hk2 HX.out.2 HD.out)).symm, rfl⟩
        · have HD := Lib.hid hd
          have hd' : (p % k == 0) = false := by simp [hd]
          have HX := Lib.hid (small_root g2 hk2 hk6 hlt)
          clear hd
          go_wp2
          go_round
          case rel => exact ⟨k + 1, by go_num, by omega, by have := HX.out.1; omega, fun d h1 h2 => by
            by_cases e : d = k
            · subst e; exact HD.out
            · exact HN.out d h1 (by omega)⟩
          case measure => simp [intOf]; omega
      · have HE := Lib.hid (show p < k * k by omega)
        go_wp2
        go_ret
        exact ⟨ret_bool (tell_true (prm_roots g1 g2 HE.out hk2 HN.out)).symm, rfl⟩
  · have t1 := Lib.hid (show (decide (2 ≤ p) && decide (p ≤ 31)) = false by by_cases a : 2 ≤ p <;> by_cases b : p ≤ 31 <;> simp [a, b] <;> omega)
    have hn := Lib.hid (show ¬ Prm p from fun k => h1 ⟨k.1, k.2.1⟩)
    clear h1
    go_enter Tryd.func53, Tryd.ntmps53
    go_wp2_with fail
    refine (l00In_val _ 2 31 false _ t1.out).mono ?_
    rintro e w' ⟨rfl, rfl⟩
    go_wp2
    go_ret
    exact ⟨ret_bool (tell_false hn.out).symm, rfl⟩

set_option maxRecDepth 100000 in
set_option maxHeartbeats 400000 in
theorem l05Residues_any (p : Int) (a : Option Addr) (zs : List Int) (c : Nat) (w : World) (h : Ints w a zs) (hl : zs.length ≤ 9223372036854775807) (hp : 2 ≤ p) (hp1 : p ≤ 31) :
    Calls Tryd.prog 56 #[.int .i64 p, .slice a zs.length c] w fun e w' => e = .returned (.bool (tell (Elems p zs))) ∧ w = w' := by
  go_enter Tryd.func56, Tryd.ntmps56
  go_wp2
  go_loop [5] (fun i => ∃ k : Nat, i = .int .i64 k ∧ k ≤ zs.length ∧ ∀ j, j < k → Elem p (nth zs j))
    (fun i => zs.length - (intOf i).toNat)
  case atStart => exact ⟨0, rfl, Nat.zero_le _, fun j hj => absurd hj (Nat.not_lt_zero _)⟩
  case round =>
    obtain ⟨k, rfl, hk, hno⟩ := hrel
    have HN := Lib.hid hno
    clear hno
    by_cases hlt : k < zs.length
    · rcases h with h | ⟨b, o, rfl, hc⟩
      · rw [h] at hlt; exact absurd hlt (Nat.not_lt_zero _)
      have hcell := hc k hlt
      have hi0 : (k : Int) < (zs.length : Int) := by omega
      clear hc
      by_cases he : Elem p (nth zs k)
      · have t1 := Lib.hid (show (decide (0 ≤ nth zs k) && decide (nth zs k ≤ p - 1)) = true by have := he.1; have := he.2; simp; omega)
        have HE := Lib.hid he
        clear he
        go_wp2_with fail
        refine (l00In_val _ 0 _ true _ t1.out).mono ?_
        rintro e w' ⟨rfl, rfl⟩
        go_wp2
        go_round
        case rel => exact ⟨k + 1, by go_num, by omega, fun j hj => by
          by_cases e : j = k
          · subst e; exact HE.out
          · exact HN.out j (by omega)⟩
        case measure => simp [intOf]; omega
      · have t1 := Lib.hid (show (decide (0 ≤ nth zs k) && decide (nth zs k ≤ p - 1)) = false by unfold Elem at he; by_cases q1 : 0 ≤ nth zs k <;> by_cases q2 : nth zs k ≤ p - 1 <;> simp [q1, q2] <;> omega)
        have HE := Lib.hid (show ¬ Elems p zs from fun q => he (q k hlt))
        clear he
        go_wp2_with fail
        refine (l00In_val _ 0 _ false _ t1.out).mono ?_
        rintro e w' ⟨rfl, rfl⟩
        go_wp2
        go_ret
        exact ⟨ret_bool (tell_false HE.out).symm, rfl⟩
    · have HE := Lib.hid (show Elems p zs from fun i hi => HN.out i (by omega))
      go_wp2
      go_ret
      exact ⟨ret_bool (tell_true HE.out).symm, rfl⟩

set_option maxRecDepth 100000 in
set_option maxHeartbeats 400000 in
theorem implVc_any (p : Int) (a : Option Addr) (zs : List Int) (c : Nat) (w : World) (h : Ints w a zs) (hl : zs.length ≤ 9223372036854775807) :
    Calls Tryd.prog 83 #[.int .i64 p, .slice a zs.length c] w fun e w' => e = .returned (.bool (tell (CurveOk p zs))) ∧ w = w' := by
  have HI := Lib.hid h
  by_cases he : Elems p zs ∧ Prm p
  case neg =>
    have HT := Lib.hid (tell_false he)
    have HN := Lib.hid (tell_false (p := CurveOk p zs) (fun q => he ⟨q.2.2.1, q.1⟩))
    clear he h
    go_enter Tryd.func83, Tryd.ntmps83
    go_wp2_with fail
    refine (areElems_any p a zs c _ HI.out hl).mono ?_
    rintro e w' ⟨rfl, rfl⟩
    rw [HT.out]
    go_wp2
    go_ret
    exact ⟨ret_bool HN.out.symm, rfl⟩
  have HT := Lib.hid (tell_true he)
  have HE := Lib.hid he
  clear he
  by_cases h7 : 7 < zs.length
  · have t7 : ¬ (zs.length : Int) ≤ 7 := by omega
    have HN := Lib.hid (tell_false (p := CurveOk p zs) (fun q => by have := q.2.1; omega))
    clear h
    go_enter Tryd.func83, Tryd.ntmps83
    go_wp2_with fail
    refine (areElems_any p a zs c _ HI.out hl).mono ?_
    rintro e w' ⟨rfl, rfl⟩
    rw [HT.out]
    go_wp2
    go_ret
    exact ⟨ret_bool HN.out.symm, rfl⟩
  have t7 : (zs.length : Int) ≤ 7 := by omega
  by_cases h0 : zs.length = 0
  · have HN := Lib.hid (tell_true (p := CurveOk p zs) ⟨HE.out.2, by omega, HE.out.1, .inl h0⟩)
    have t0 : ((zs.length : Int) == 0) = true := by simp [h0]
    clear h h0
    go_enter Tryd.func83, Tryd.ntmps83
    go_wp2_with fail
    refine (areElems_any p a zs c _ HI.out hl).mono ?_
    rintro e w' ⟨rfl, rfl⟩
    rw [HT.out]
    go_wp2
    go_ret
    exact ⟨ret_bool HN.out.symm, rfl⟩
  rcases h with h | ⟨b, o, rfl, hc⟩
  · exact absurd (by rw [h]; rfl) h0
  have hcell := hc (zs.length - 1) (by omega)
  have hb0 : b < w.heap.size := World.block_lt_of_cell? _ _ hcell
  have t0 : ((zs.length : Int) == 0) = false := beq_eq_false_iff_ne.mpr (by omega)
  obtain ⟨k, hk⟩ : ∃ k : Nat, zs.length = k + 1 := ⟨zs.length - 1, by omega⟩
  have hk1 : zs.length - 1 = k := by omega
  rw [hk1] at hcell
  have hkz : ((zs.length : Int) - 1) = (k : Int) := by omega
  have hkl : (k : Int) < (zs.length : Int) := by omega
  have hk7 : k ≤ 7 := by omega
  by_cases hz : nth zs k = 0
  · have HN := Lib.hid (tell_false (p := CurveOk p zs) (fun q => q.2.2.2.elim h0 (fun q => q (by rw [hk1]; exact hz))))
    have tz : (nth zs k != 0) = false := by simp [hz]
    clear hc hz hk hk1 h0
    go_enter Tryd.func83, Tryd.ntmps83
    go_wp2_with fail
    refine (areElems_any p _ zs c _ HI.out hl).mono ?_
    rintro e w' ⟨rfl, rfl⟩
    rw [HT.out]
    go_wp2
    go_ret
    exact ⟨ret_bool HN.out.symm, rfl⟩
  · have HN := Lib.hid (tell_true (p := CurveOk p zs) ⟨HE.out.2, by omega, HE.out.1, .inr (by rw [hk1]; exact hz)⟩)
    have tz : (nth zs k != 0) = true := by simp [hz]
    clear hc hz hk hk1 h0
    go_enter Tryd.func83, Tryd.ntmps83
    go_wp2_with fail
    refine (areElems_any p _ zs c _ HI.out hl).mono ?_
    rintro e w' ⟨rfl, rfl⟩
    rw [HT.out]
    go_wp2
    go_ret
    exact ⟨ret_bool HN.out.symm, rfl⟩

/-- What is left of a curve behind its prime. -/
def CoefsOk (p : Int) (zs : List Int) : Prop := zs.length ≤ 7 ∧ Elems p zs ∧ (zs.length = 0 ∨ nth zs (zs.length - 1) ≠ 0)

set_option maxRecDepth 100000 in
set_option maxHeartbeats 400000 in
theorem l05Curve_any (p : Int) (a : Option Addr) (zs : List Int) (c : Nat) (w : World) (h : Ints w a zs) (hl : zs.length ≤ 9223372036854775807) (hp : 2 ≤ p) (hp1 : p ≤ 31) :
    Calls Tryd.prog 80 #[.int .i64 p, .slice a zs.length c] w fun e w' => e = .returned (.bool (tell (CoefsOk p zs))) ∧ w = w' := by
  have HI := Lib.hid h
  by_cases h7 : 7 < zs.length
  · have t7 : ¬ (zs.length : Int) ≤ 7 := by omega
    have HN := Lib.hid (tell_false (p := CoefsOk p zs) (fun q => by have := q.1; omega))
    clear h
    go_enter Tryd.func80, Tryd.ntmps80
    go_wp2
    go_ret
    exact ⟨ret_bool HN.out.symm, rfl⟩
  have t7 : (zs.length : Int) ≤ 7 := by omega
  by_cases he : Elems p zs
  case neg =>
    have HT := Lib.hid (tell_false he)
    have HN := Lib.hid (tell_false (p := CoefsOk p zs) (fun q => he q.2.1))
    clear he h
    go_enter Tryd.func80, Tryd.ntmps80
    go_wp2_with fail
    refine (l05Residues_any p _ zs c _ HI.out hl hp hp1).mono ?_
    rintro e w' ⟨rfl, rfl⟩
    rw [HT.out]
    go_wp2
    go_ret
    exact ⟨ret_bool HN.out.symm, rfl⟩
  have HT := Lib.hid (tell_true he)
  have HE := Lib.hid he
  clear he
  by_cases h0 : zs.length = 0
  · have HN := Lib.hid (tell_true (p := CoefsOk p zs) ⟨by omega, HE.out, .inl h0⟩)
    have t0 : ((zs.length : Int) == 0) = true := by simp [h0]
    clear h h0
    go_enter Tryd.func80, Tryd.ntmps80
    go_wp2_with fail
    refine (l05Residues_any p _ zs c _ HI.out hl hp hp1).mono ?_
    rintro e w' ⟨rfl, rfl⟩
    rw [HT.out]
    go_wp2
    go_ret
    exact ⟨ret_bool HN.out.symm, rfl⟩
  rcases h with h | ⟨b, o, rfl, hc⟩
  · exact absurd (by rw [h]; rfl) h0
  have hcell := hc (zs.length - 1) (by omega)
  have t0 : ((zs.length : Int) == 0) = false := beq_eq_false_iff_ne.mpr (by omega)
  obtain ⟨k, hk⟩ : ∃ k : Nat, zs.length = k + 1 := ⟨zs.length - 1, by omega⟩
  have hk1 : zs.length - 1 = k := by omega
  rw [hk1] at hcell
  have hkz : ((zs.length : Int) - 1) = (k : Int) := by omega
  have hkl : (k : Int) < (zs.length : Int) := by omega
  have hk7 : k ≤ 7 := by omega
  by_cases hz : nth zs k = 0
  · have HN := Lib.hid (tell_false (p := CoefsOk p zs) (fun q => q.2.2.elim h0 (fun q => q (by rw [hk1]; exact hz))))
    have tz : (nth zs k != 0) = false := by simp [hz]
    clear hc hz hk hk1 h0
    go_enter Tryd.func80, Tryd.ntmps80
    go_wp2_with fail
    refine (l05Residues_any p _ zs c _ HI.out hl hp hp1).mono ?_
    rintro e w' ⟨rfl, rfl⟩
    rw [HT.out]
    go_wp2
    go_ret
    exact ⟨ret_bool HN.out.symm, rfl⟩
  · have HN := Lib.hid (tell_true (p := CoefsOk p zs) ⟨by omega, HE.out, .inr (by rw [hk1]; exact hz)⟩)
    have tz : (nth zs k != 0) = true := by simp [hz]
    clear hc hz hk hk1 h0
    go_enter Tryd.func80, Tryd.ntmps80
    go_wp2_with fail
    refine (l05Residues_any p _ zs c _ HI.out hl hp hp1).mono ?_
    rintro e w' ⟨rfl, rfl⟩
    rw [HT.out]
    go_wp2
    go_ret
    exact ⟨ret_bool HN.out.symm, rfl⟩

set_option maxRecDepth 100000 in
theorem specVc_any (p : Int) (a : Option Addr) (zs : List Int) (c : Nat) (w : World) (h : Ints w a zs) (hl : zs.length ≤ 9223372036854775807) :
    Calls Tryd.prog 44 #[.int .i64 p, .slice a zs.length c] w fun e w' => e = .returned (.bool (tell (CurveOk p zs))) ∧ w = w' := by
  have HI := Lib.hid h
  clear h
  by_cases hp : Prm p
  case neg =>
    have HT := Lib.hid (tell_false hp)
    have HN := Lib.hid (tell_false (p := CurveOk p zs) (fun q => hp q.1))
    clear hp
    go_enter Tryd.func44, Tryd.ntmps44
    go_wp2_with fail
    refine (l05Prime_any p _).mono ?_
    rintro e w' ⟨rfl, rfl⟩
    rw [HT.out]
    go_wp2
    go_ret
    exact ⟨ret_bool HN.out.symm, rfl⟩
  have HT := Lib.hid (tell_true hp)
  have HP := Lib.hid hp
  clear hp
  have HN := Lib.hid (show tell (CoefsOk p zs) = tell (CurveOk p zs) from tell_congr ⟨fun q => ⟨HP.out, q⟩, fun q => q.2⟩)
  go_enter Tryd.func44, Tryd.ntmps44
  go_wp2_with fail
  refine (l05Prime_any p _).mono ?_
  rintro e w' ⟨rfl, rfl⟩
  rw [HT.out]
  go_wp2_with fail
  refine (l05Curve_any p a zs c _ HI.out hl HP.out.1 HP.out.2.1).mono ?_
  rintro e w' ⟨rfl, rfl⟩
  rw [HN.out]
  obtain ⟨u, hu⟩ : ∃ u, tell (CurveOk p zs) = u := ⟨_, rfl⟩
  have HU := Lib.hid hu
  rw [hu]
  clear hu
  go_wp2
  go_ret
  exact ⟨ret_bool HU.out.symm, rfl⟩
end Go.Proofs.YtgndekojodpmkaaDoor

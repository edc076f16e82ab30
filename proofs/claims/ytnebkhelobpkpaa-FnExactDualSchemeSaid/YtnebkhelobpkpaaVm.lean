/- The contracts of ValidMatrix, the program's and the model's, of l03Row and l03Ok. -/
import Derived.Test.YtnebkhelobpkpaaPrm
import Derived.Test.YtnebkhelobpkpaaMat
namespace Go.Proofs.Ytnebkhelobpkpaa
open Go.RowKit Go.Deep
set_option linter.unusedVariables false

/-- A row of a matrix. -/
def RowOk (p c : Int) (zs : List Int) : Prop := (zs.length : Int) = c ∧ Elems p zs
/-- A valid matrix. -/
def MatOk (p c : Int) (zss : List (List Int)) : Prop := Prm p ∧ (0 ≤ c ∧ c ≤ 12) ∧ zss.length ≤ 20 ∧ ∀ r, r < zss.length → RowOk p c (nthL zss r)

set_option maxRecDepth 100000 in
set_option maxHeartbeats 400000 in
theorem l03Row_any (p c : Int) (a : Option Addr) (zs : List Int) (cc : Nat) (w : World) (h : Ints w a zs) (hl : zs.length ≤ 9223372036854775807) (hp : 2 ≤ p) (hp1 : p ≤ 31) :
    Calls Try.prog 121 #[.int .i64 p, .int .i64 c, .slice a zs.length cc] w fun e w' => e = .returned (.bool (tell (RowOk p c zs))) ∧ w = w' := by
  go_enter Try.func121, Try.ntmps121
  go_wp2
  go_loop [7] (fun i => ∃ k : Nat, i = .int .i64 k ∧ k ≤ zs.length ∧ ∀ j, j < k → Elem p (nth zs j))
    (fun i => zs.length - (intOf i).toNat)
  case atStart => exact ⟨0, rfl, Nat.zero_le _, fun j hj => absurd hj (Nat.not_lt_zero _)⟩
  case round =>
    obtain ⟨k, rfl, hk, hno⟩ := hrel
    have HN := Lib.hid hno
    clear hno
    by_cases hlt : k < zs.length
    · rcases h with h | ⟨b, o, rfl, hc⟩
      · rw [h] at hlt; exact absurd hlt (Nat.not_lt_zero _)
      have hcell := hc k hlt
      have hi0 : (k : Int) < (zs.length : Int) := by omega
      clear hc
      by_cases he : Elem p (nth zs k)
      · have t1 := Lib.hid (show (decide (0 ≤ nth zs k) && decide (nth zs k ≤ p - 1)) = true by have := he.1; have := he.2; simp; omega)
        have HE := Lib.hid he
        clear he
        go_wp2_with fail
        refine (l00In_val _ 0 _ true _ t1.out).mono ?_
        rintro e w' ⟨rfl, rfl⟩
        go_wp2
        go_round
        case rel => exact ⟨k + 1, by go_num, by omega, fun j hj => by
          by_cases e : j = k
          · subst e; exact HE.out
          · exact HN.out j (by omega)⟩
        case measure => simp [intOf]; omega
      · have t1 := Lib.hid (show (decide (0 ≤ nth zs k) && decide (nth zs k ≤ p - 1)) = false by unfold Elem at he; by_cases q1 : 0 ≤ nth zs k <;> by_cases q2 : nth zs k ≤ p - 1 <;> simp [q1, q2] <;> omega)
        have HE := Lib.hid (show ¬ RowOk p c zs from fun q => he (q.2 k hlt))
        clear he
        go_wp2_with fail
        refine (l00In_val _ 0 _ false _ t1.out).mono ?_
        rintro e w' ⟨rfl, rfl⟩
        go_wp2
        go_ret
        exact ⟨ret_bool (tell_false HE.out).symm, rfl⟩
    · have HE := Lib.hid (show Elems p zs from fun i hi => HN.out i (by omega))
      by_cases hc : (zs.length : Int) = c
      · have t2 : ((zs.length : Int) == c) = true := by simp [hc]
        have HC := Lib.hid hc
        clear hc
        go_wp2
        go_ret
        exact ⟨ret_bool (tell_true ⟨HC.out, HE.out⟩).symm, rfl⟩
      · have t2 : ((zs.length : Int) == c) = false := by simp [hc]
        have HC := Lib.hid (show ¬ RowOk p c zs from fun q => hc q.1)
        clear hc
        go_wp2
        go_ret
        exact ⟨ret_bool (tell_false HC.out).symm, rfl⟩

set_option maxRecDepth 100000 in
set_option maxHeartbeats 1000000 in
theorem implVm_any (p c : Int) (a : Option Addr) (zss : List (List Int)) (cc : Nat) (w : World) (hr : Rows2 w a zss) (hl : Lens zss) :
    Calls Try.prog 102 #[.agg #[.int .i64 p, .int .i64 c, .slice a zss.length cc]] w fun e w' => e = .returned (.bool (tell (MatOk p c zss))) ∧ Below w.heap.size w w' := by
  have hl1 : zss.length ≤ 9223372036854775807 := hl.1
  have HL := Lib.hid hl
  have hb1 := (Below.refl w.heap.size w).alloc (Nat.le_refl _) (.cells #[.int .i64 p, .int .i64 c, .slice a zss.length cc] 46)
  have HB1 := Lib.hid hb1
  have HR := Lib.hid (hr.below hb1 (Nat.le_refl _))
  clear hb1 hr hl
  by_cases hp : Prm p
  case neg =>
    have HT := Lib.hid (tell_false hp)
    have HN := Lib.hid (tell_false (p := MatOk p c zss) (fun q => hp q.1))
    clear hp
    go_enter Try.func102, Try.ntmps102
    go_wp2_with fail
    refine (implPrime_any p _).mono ?_
    rintro e w' ⟨rfl, rfl⟩
    rw [HT.out]
    go_wp2
    go_ret
    exact ⟨ret_bool HN.out.symm, HB1.out⟩
  have HT := Lib.hid (tell_true hp)
  by_cases h0 : c < 0
  · have HN := Lib.hid (tell_false (p := MatOk p c zss) (fun q => by have := q.2.1.1; omega))
    clear hp
    go_enter Try.func102, Try.ntmps102
    go_wp2_with fail
    refine (implPrime_any p _).mono ?_
    rintro e w' ⟨rfl, rfl⟩
    rw [HT.out]
    go_wp2
    go_ret
    exact ⟨ret_bool HN.out.symm, HB1.out⟩
  by_cases h1 : 12 < c
  · have HN := Lib.hid (tell_false (p := MatOk p c zss) (fun q => by have := q.2.1.2; omega))
    clear hp
    go_enter Try.func102, Try.ntmps102
    go_wp2_with fail
    refine (implPrime_any p _).mono ?_
    rintro e w' ⟨rfl, rfl⟩
    rw [HT.out]
    go_wp2
    go_ret
    exact ⟨ret_bool HN.out.symm, HB1.out⟩
  by_cases h2 : (20 : Int) < (zss.length : Int)
  · have HN := Lib.hid (tell_false (p := MatOk p c zss) (fun q => by have := q.2.2.1; omega))
    clear hp
    go_enter Try.func102, Try.ntmps102
    go_wp2_with fail
    refine (implPrime_any p _).mono ?_
    rintro e w' ⟨rfl, rfl⟩
    rw [HT.out]
    go_wp2
    go_ret
    exact ⟨ret_bool HN.out.symm, HB1.out⟩
  have HP := Lib.hid hp
  clear hp
  go_enter Try.func102, Try.ntmps102
  go_wp2_with fail
  refine (implPrime_any p _).mono ?_
  rintro e w' ⟨rfl, rfl⟩
  rw [HT.out]
  go_wp2_with fail
  obtain ⟨W0, hW0⟩ : ∃ W0, w.alloc (.cells #[.int .i64 p, .int .i64 c, .slice a zss.length cc] 46) = W0 := ⟨_, rfl⟩
  have c0 : W0.cell? ⟨w.heap.size, 0, none⟩ = some (.int .i64 p) := by rw [← hW0]; simp
  have c1 : W0.cell? ⟨w.heap.size, 1, none⟩ = some (.int .i64 c) := by rw [← hW0]; simp
  rw [hW0] at HR HB1
  simp only [hW0]
  clear hW0
  go_loop [4, 28] (fun u i => ∃ k : Nat, i = .int .i64 k ∧ k ≤ zss.length ∧ ∀ j, j < k → RowOk p c (nthL zss j))
    (fun _ i => zss.length - (intOf i).toNat)
  case atStart => exact ⟨0, rfl, Nat.zero_le _, fun j hj => absurd hj (Nat.not_lt_zero _)⟩
  case round =>
    obtain ⟨k, rfl, hk, hno⟩ := hrel
    have HN := Lib.hid hno
    clear hno
    by_cases hlt : k < zss.length
    · rcases HR.out with h | ⟨b, o, rfl, hc⟩
      · rw [h] at hlt; exact absurd hlt (Nat.not_lt_zero _)
      obtain ⟨ai, ci, hcell, hints⟩ := hc k hlt
      have hi0 : (k : Int) < (zss.length : Int) := by omega
      have HI := Lib.hid hints
      clear hc hints
      by_cases hlen : ((nthL zss k).length : Int) = c
      · have t1 : (((nthL zss k).length : Int) != c) = false := by simp [hlen]
        have HLN := Lib.hid hlen
        clear hlen
        by_cases he : Elems p (nthL zss k)
        · have HE := Lib.hid (tell_true (p := Elems p (nthL zss k) ∧ Prm p) ⟨he, HP.out⟩)
          have HE2 := Lib.hid he
          clear he
          go_wp2_with fail
          refine (areElems_any p ai (nthL zss k) ci _ HI.out (HL.out.2 k hlt)).mono ?_
          rintro e w' ⟨rfl, rfl⟩
          rw [HE.out]
          go_wp2
          go_round
          case rel => exact ⟨k + 1, by go_num, by omega, fun j hj => by
            by_cases e : j = k
            · subst e; exact ⟨HLN.out, HE2.out⟩
            · exact HN.out j (by omega)⟩
          case measure => simp [intOf]; omega
        · have HE := Lib.hid (tell_false (p := Elems p (nthL zss k) ∧ Prm p) (fun q => he q.1))
          have HX := Lib.hid (tell_false (p := MatOk p c zss) (fun q => he (q.2.2.2 k hlt).2))
          clear he
          go_wp2_with fail
          refine (areElems_any p ai (nthL zss k) ci _ HI.out (HL.out.2 k hlt)).mono ?_
          rintro e w' ⟨rfl, rfl⟩
          rw [HE.out]
          go_wp2
          go_ret
          exact ⟨ret_bool HX.out.symm, HB1.out⟩
      · have t1 : (((nthL zss k).length : Int) != c) = true := by simp [hlen]
        have HX := Lib.hid (tell_false (p := MatOk p c zss) (fun q => hlen (q.2.2.2 k hlt).1))
        clear hlen
        go_wp2
        go_ret
        exact ⟨ret_bool HX.out.symm, HB1.out⟩
    · have HX := Lib.hid (tell_true (p := MatOk p c zss) ⟨HP.out, ⟨by omega, by omega⟩, by omega, fun r hr => HN.out r (by omega)⟩)
      go_wp2
      go_ret
      exact ⟨ret_bool HX.out.symm, HB1.out⟩

set_option maxRecDepth 100000 in
set_option maxHeartbeats 1000000 in
theorem l03Ok_any (q0 : Nat) (p c : Int) (a : Option Addr) (zss : List (List Int)) (cc : Nat) (w : World) (hbx : Boxes w q0 46 #[.int .i64 p, .int .i64 c, .slice a zss.length cc]) (hr : Rows2 w a zss) (hl : Lens zss) :
    Calls Try.prog 81 #[.pointer (some ⟨q0, 0, none⟩)] w fun e w' => e = .returned (.bool (tell (MatOk p c zss))) ∧ Quiet w w' := by
  have hl1 : zss.length ≤ 9223372036854775807 := hl.1
  have HL := Lib.hid hl
  have c0 := hbx.m0
  have c1 := hbx.m1
  have c2 := hbx.m2
  clear hl hbx
  have HR := Lib.hid hr
  clear hr
  by_cases hp : Prm p
  case neg =>
    have HT := Lib.hid (tell_false hp)
    have HN := Lib.hid (tell_false (p := MatOk p c zss) (fun q => hp q.1))
    clear hp
    go_enter Try.func81, Try.ntmps81
    go_wp2_with fail
    refine (specPrime_any p _).mono ?_
    rintro e w' ⟨rfl, rfl⟩
    rw [HT.out]
    go_wp2
    go_ret
    exact ⟨ret_bool HN.out.symm, Quiet.refl _⟩
  have HT := Lib.hid (tell_true hp)
  by_cases h0 : 0 ≤ c ∧ c ≤ 12
  case neg =>
    have t1 := Lib.hid (show (decide (0 ≤ c) && decide (c ≤ 12)) = false by by_cases q1 : 0 ≤ c <;> by_cases q2 : c ≤ 12 <;> simp [q1, q2] <;> omega)
    have HN := Lib.hid (tell_false (p := MatOk p c zss) (fun q => h0 q.2.1))
    clear hp h0
    go_enter Try.func81, Try.ntmps81
    go_wp2_with fail
    refine (specPrime_any p _).mono ?_
    rintro e w' ⟨rfl, rfl⟩
    rw [HT.out]
    go_wp2_with fail
    refine (l00In_val _ 0 12 false _ t1.out).mono ?_
    rintro e w' ⟨rfl, rfl⟩
    go_wp2
    go_ret
    exact ⟨ret_bool HN.out.symm, Quiet.refl _⟩
  have t1 := Lib.hid (show (decide (0 ≤ c) && decide (c ≤ 12)) = true by simp; omega)
  have HC := Lib.hid h0
  clear h0
  by_cases h2 : (20 : Int) < (zss.length : Int)
  · have HN := Lib.hid (tell_false (p := MatOk p c zss) (fun q => by have := q.2.2.1; omega))
    clear hp
    go_enter Try.func81, Try.ntmps81
    go_wp2_with fail
    refine (specPrime_any p _).mono ?_
    rintro e w' ⟨rfl, rfl⟩
    rw [HT.out]
    go_wp2_with fail
    refine (l00In_val _ 0 12 true _ t1.out).mono ?_
    rintro e w' ⟨rfl, rfl⟩
    go_wp2
    go_ret
    exact ⟨ret_bool HN.out.symm, Quiet.refl _⟩
  have hp2 : 2 ≤ p := hp.1
  have hp3 : p ≤ 31 := hp.2.1
  have HP := Lib.hid hp
  clear hp
  go_enter Try.func81, Try.ntmps81
  go_wp2_with fail
  refine (specPrime_any p _).mono ?_
  rintro e w' ⟨rfl, rfl⟩
  rw [HT.out]
  go_wp2_with fail
  refine (l00In_val _ 0 12 true _ t1.out).mono ?_
  rintro e w' ⟨rfl, rfl⟩
  go_wp2_with fail
  go_loopw [3] (fun i wr => ∃ k : Nat, i = .int .i64 k ∧ k ≤ zss.length ∧ Quiet w wr ∧ ∀ j, j < k → RowOk p c (nthL zss j))
    (fun i _ => zss.length - (intOf i).toNat)
  case atStart => exact ⟨0, rfl, Nat.zero_le _, Quiet.refl _, fun j hj => absurd hj (Nat.not_lt_zero _)⟩
  case round =>
    obtain ⟨k, rfl, hk, hq, hno⟩ := hrel
    have HN := Lib.hid hno
    have HQ := Lib.hid hq
    have d0 := (hq.cell _).trans c0
    have d1 := (hq.cell _).trans c1
    have d2 := (hq.cell _).trans c2
    by_cases hlt : k < zss.length
    · rcases HR.out.quiet hq with h | ⟨b, o, rfl, hc⟩
      · rw [h] at hlt; exact absurd hlt (Nat.not_lt_zero _)
      obtain ⟨ai, ci, hcell, hints⟩ := hc k hlt
      have hi0 : (k : Int) < (zss.length : Int) := by omega
      have HI := Lib.hid hints
      clear hc hints hno hq c0 c1 c2
      by_cases he : RowOk p c (nthL zss k)
      · have HE := Lib.hid (tell_true he)
        have HE2 := Lib.hid he
        clear he
        go_wp2
        go_quiet ((go_at_call 121; refine Calls.quiet_of (v := .bool true) ?_; rw [← HE.out]; refine (l03Row_any p c ai (nthL zss k) ci _ (HI.out.quiet ⟨_, rfl⟩) (HL.out.2 k hlt) hp2 hp3).mono ?_; rintro e w' ⟨rfl, rfl⟩; exact ⟨rfl, Quiet.refl _⟩))
        go_wp2
        go_roundw
        case rel => exact ⟨k + 1, by go_num, by omega, HQ.out.trans ⟨_, rfl⟩, fun j hj => by
            by_cases e : j = k
            · subst e; exact HE2.out
            · exact HN.out j (by omega)⟩
        case measure => simp [intOf]; omega
      · have HE := Lib.hid (tell_false he)
        have HX := Lib.hid (tell_false (p := MatOk p c zss) (fun q => he (q.2.2.2 k hlt)))
        clear he
        go_wp2
        go_quiet ((go_at_call 121; refine Calls.quiet_of (v := .bool false) ?_; rw [← HE.out]; refine (l03Row_any p c ai (nthL zss k) ci _ (HI.out.quiet ⟨_, rfl⟩) (HL.out.2 k hlt) hp2 hp3).mono ?_; rintro e w' ⟨rfl, rfl⟩; exact ⟨rfl, Quiet.refl _⟩))
        go_wp2
        go_ret
        exact ⟨ret_bool HX.out.symm, HQ.out.trans ⟨_, rfl⟩⟩
    · have HX := Lib.hid (tell_true (p := MatOk p c zss) ⟨HP.out, HC.out, by omega, fun r hr => HN.out r (by omega)⟩)
      clear hno hq c0 c1 c2
      go_wp2
      go_ret
      exact ⟨ret_bool HX.out.symm, HQ.out⟩

end Go.Proofs.Ytnebkhelobpkpaa

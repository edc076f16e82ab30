/- The contracts of ValidScheme, the program's and the model's. -/
import Derived.Test.YtnebkhelobpkpaaVm
import Derived.Test.YtnebkhelobpkpaaSch
import Derived.BigQuiet
namespace Go.Proofs.Ytnebkhelobpkpaa
open Go.RowKit Go.Deep
set_option linter.unusedVariables false

/-- A valid scheme. -/
def SchOk (h : Int) (yo : List Int) (f l : Int) (z : List (List Int)) : Prop := (1 ≤ h ∧ h ≤ 7) ∧ MatOk f l z ∧ 1 ≤ l ∧ yo.length = z.length ∧ ∀ i, i < yo.length → 0 ≤ nth yo i ∧ nth yo i < h

set_option maxRecDepth 100000 in
set_option maxHeartbeats 1000000 in
theorem l03Ok2_any (q0 : Nat) (p c : Int) (a : Option Addr) (zss : List (List Int)) (cc : Nat) (w : World) (c0 : w.cell? ⟨q0, 2, none⟩ = some (.int .i64 p)) (c1 : w.cell? ⟨q0, 3, none⟩ = some (.int .i64 c)) (c2 : w.cell? ⟨q0, 4, none⟩ = some (.slice a zss.length cc)) (hr : Rows2 w a zss) (hl : Lens zss) :
    Calls Try.prog 81 #[.pointer (some ⟨q0, 2, none⟩)] w fun e w' => e = .returned (.bool (tell (MatOk p c zss))) ∧ Quiet w w' := by
  have hl1 : zss.length ≤ 9223372036854775807 := hl.1
  have HL := Lib.hid hl
  clear hl
  have HR := Lib.hid hr
  clear hr
  by_cases hp : Prm p
  case neg =>
    have HT := Lib.hid (tell_false hp)
    have HN := Lib.hid (tell_false (p := MatOk p c zss) (fun q => hp q.1))
    clear hp
    go_enter Try.func81, Try.ntmps81
    go_wp2_with fail
    refine (specPrime_any p _).mono ?_
    rintro e w' ⟨rfl, rfl⟩
    rw [HT.out]
    go_wp2
    go_ret
    exact ⟨ret_bool HN.out.symm, Quiet.refl _⟩
  have HT := Lib.hid (tell_true hp)
  by_cases h0 : 0 ≤ c ∧ c ≤ 12
  case neg =>
    have t1 := Lib.hid (show (decide (0 ≤ c) && decide (c ≤ 12)) = false by by_cases q1 : 0 ≤ c <;> by_cases q2 : c ≤ 12 <;> simp [q1, q2] <;> omega)
    have HN := Lib.hid (tell_false (p := MatOk p c zss) (fun q => h0 q.2.1))
    clear hp h0
    go_enter Try.func81, Try.ntmps81
    go_wp2_with fail
    refine (specPrime_any p _).mono ?_
    rintro e w' ⟨rfl, rfl⟩
    rw [HT.out]
    go_wp2_with fail
    refine (l00In_val _ 0 12 false _ t1.out).mono ?_
    rintro e w' ⟨rfl, rfl⟩
    go_wp2
    go_ret
    exact ⟨ret_bool HN.out.symm, Quiet.refl _⟩
  have t1 := Lib.hid (show (decide (0 ≤ c) && decide (c ≤ 12)) = true by simp; omega)
  have HC := Lib.hid h0
  clear h0
  by_cases h2 : (20 : Int) < (zss.length : Int)
  · have HN := Lib.hid (tell_false (p := MatOk p c zss) (fun q => by have := q.2.2.1; omega))
    clear hp
    go_enter Try.func81, Try.ntmps81
    go_wp2_with fail
    refine (specPrime_any p _).mono ?_
    rintro e w' ⟨rfl, rfl⟩
    rw [HT.out]
    go_wp2_with fail
    refine (l00In_val _ 0 12 true _ t1.out).mono ?_
    rintro e w' ⟨rfl, rfl⟩
    go_wp2
    go_ret
    exact ⟨ret_bool HN.out.symm, Quiet.refl _⟩
  have hp2 : 2 ≤ p := hp.1
  have hp3 : p ≤ 31 := hp.2.1
  have HP := Lib.hid hp
  clear hp
  go_enter Try.func81, Try.ntmps81
  go_wp2_with fail
  refine (specPrime_any p _).mono ?_
  rintro e w' ⟨rfl, rfl⟩
  rw [HT.out]
  go_wp2_with fail
  refine (l00In_val _ 0 12 true _ t1.out).mono ?_
  rintro e w' ⟨rfl, rfl⟩
  go_wp2_with fail
  go_loopw [3] (fun i wr => ∃ k : Nat, i = .int .i64 k ∧ k ≤ zss.length ∧ Quiet w wr ∧ ∀ j, j < k → RowOk p c (nthL zss j))
    (fun i _ => zss.length - (intOf i).toNat)
  case atStart => exact ⟨0, rfl, Nat.zero_le _, Quiet.refl _, fun j hj => absurd hj (Nat.not_lt_zero _)⟩
  case round =>
    obtain ⟨k, rfl, hk, hq, hno⟩ := hrel
    have HN := Lib.hid hno
    have HQ := Lib.hid hq
    have d0 := (hq.cell _).trans c0
    have d1 := (hq.cell _).trans c1
    have d2 := (hq.cell _).trans c2
    by_cases hlt : k < zss.length
    · rcases HR.out.quiet hq with h | ⟨b, o, rfl, hc⟩
      · rw [h] at hlt; exact absurd hlt (Nat.not_lt_zero _)
      obtain ⟨ai, ci, hcell, hints⟩ := hc k hlt
      have hi0 : (k : Int) < (zss.length : Int) := by omega
      have HI := Lib.hid hints
      clear hc hints hno hq c0 c1 c2
      by_cases he : RowOk p c (nthL zss k)
      · have HE := Lib.hid (tell_true he)
        have HE2 := Lib.hid he
        clear he
        go_wp2
        go_quiet ((go_at_call 121; refine Calls.quiet_of (v := .bool true) ?_; rw [← HE.out]; refine (l03Row_any p c ai (nthL zss k) ci _ (HI.out.quiet ⟨_, rfl⟩) (HL.out.2 k hlt) hp2 hp3).mono ?_; rintro e w' ⟨rfl, rfl⟩; exact ⟨rfl, Quiet.refl _⟩))
        go_wp2
        go_roundw
        case rel => exact ⟨k + 1, by go_num, by omega, HQ.out.trans ⟨_, rfl⟩, fun j hj => by
            by_cases e : j = k
            · subst e; exact HE2.out
            · exact HN.out j (by omega)⟩
        case measure => simp [intOf]; omega
      · have HE := Lib.hid (tell_false he)
        have HX := Lib.hid (tell_false (p := MatOk p c zss) (fun q => he (q.2.2.2 k hlt)))
        clear he
        go_wp2
        go_quiet ((go_at_call 121; refine Calls.quiet_of (v := .bool false) ?_; rw [← HE.out]; refine (l03Row_any p c ai (nthL zss k) ci _ (HI.out.quiet ⟨_, rfl⟩) (HL.out.2 k hlt) hp2 hp3).mono ?_; rintro e w' ⟨rfl, rfl⟩; exact ⟨rfl, Quiet.refl _⟩))
        go_wp2
        go_ret
        exact ⟨ret_bool HX.out.symm, HQ.out.trans ⟨_, rfl⟩⟩
    · have HX := Lib.hid (tell_true (p := MatOk p c zss) ⟨HP.out, HC.out, by omega, fun r hr => HN.out r (by omega)⟩)
      clear hno hq c0 c1 c2
      go_wp2
      go_ret
      exact ⟨ret_bool HX.out.symm, HQ.out⟩


set_option maxRecDepth 100000 in
set_option maxHeartbeats 2000000 in
theorem implVs_any (h f l : Int) (ao : Option Addr) (yo : List Int) (co : Nat) (a : Option Addr) (z : List (List Int)) (c : Nat) (w : World) (hr : InS w ao yo a z) (hl : LenS yo z) :
    Calls Try.prog 61 #[.agg #[.int .i64 h, .slice ao yo.length co, .int .i64 f, .int .i64 l, .slice a z.length c]] w fun e w' => e = .returned (.bool (tell (SchOk h yo f l z))) ∧ Below w.heap.size w w' := by
  have hl1 : yo.length ≤ 9223372036854775807 := hl.o
  have HL := Lib.hid hl
  have hb1 := (Below.refl w.heap.size w).alloc (Nat.le_refl _) (.cells #[.int .i64 h, .slice ao yo.length co, .int .i64 f, .int .i64 l, .slice a z.length c] 48)
  have HX0 := Lib.hid (show Boxes (w.alloc (.cells #[.int .i64 h, .slice ao yo.length co, .int .i64 f, .int .i64 l, .slice a z.length c] 48)) w.heap.size 48 #[.int .i64 h, .slice ao yo.length co, .int .i64 f, .int .i64 l, .slice a z.length c] from World.alloc_heap_new w _)
  have HB1 := Lib.hid hb1
  have HR := Lib.hid (hr.step hb1)
  clear hb1 hr hl
  by_cases h1 : h < 1
  · have HN := Lib.hid (tell_false (p := SchOk h yo f l z) (fun q => by have := q.1.1; omega))
    go_enter Try.func61, Try.ntmps61
    go_wp2_with fail
    go_ret
    exact ⟨ret_bool HN.out.symm, HB1.out⟩
  by_cases h2 : 7 < h
  · have HN := Lib.hid (tell_false (p := SchOk h yo f l z) (fun q => by have := q.1.2; omega))
    go_enter Try.func61, Try.ntmps61
    go_wp2_with fail
    go_ret
    exact ⟨ret_bool HN.out.symm, HB1.out⟩
  go_enter Try.func61, Try.ntmps61
  go_wp2_with fail
  refine (implVm_any f l a z c _ HR.out.r HL.out.r).mono ?_
  generalize w.alloc (.cells #[.int .i64 h, .slice ao yo.length co, .int .i64 f, .int .i64 l, .slice a z.length c] 48) = w1 at *
  rintro e w2 ⟨rfl, hb2⟩
  have hbx := HX0.out.step hb2
  have HR2 := Lib.hid (HR.out.step hb2)
  have HB2 := Lib.hid (chain HB1.out hb2)
  have d0 := hbx.s0
  have d1 := hbx.s1
  have d3 := hbx.s3
  have d4 := hbx.s4
  clear hb2 hbx HR HB1 HX0
  by_cases hm : MatOk f l z
  case neg =>
    have HT := Lib.hid (tell_false hm)
    have HN := Lib.hid (tell_false (p := SchOk h yo f l z) (fun q => hm q.2.1))
    clear hm
    rw [HT.out]
    go_wp2_with fail
    go_ret
    exact ⟨ret_bool HN.out.symm, HB2.out⟩
  have HT := Lib.hid (tell_true hm)
  have HM := Lib.hid hm
  clear hm
  rw [HT.out]
  by_cases h3 : l < 1
  · have HN := Lib.hid (tell_false (p := SchOk h yo f l z) (fun q => by have := q.2.2.1; omega))
    go_wp2_with fail
    go_ret
    exact ⟨ret_bool HN.out.symm, HB2.out⟩
  by_cases h4 : yo.length = z.length
  case neg =>
    have HN := Lib.hid (tell_false (p := SchOk h yo f l z) (fun q => h4 q.2.2.2.1))
    have t1 : ((yo.length : Int) != (z.length : Int)) = true := by simp; omega
    have t2 : (yo.length != z.length) = true := by simp [h4]
    clear h4
    go_wp2_with fail
    go_ret
    exact ⟨ret_bool HN.out.symm, HB2.out⟩
  have t1 : ((yo.length : Int) != (z.length : Int)) = false := by simp [h4]
  have t2 : (yo.length != z.length) = false := by simp [h4]
  have H4 := Lib.hid h4
  clear h4
  go_wp2_with fail
  go_loop [4, 38] (fun u i => ∃ k : Nat, i = .int .i64 k ∧ k ≤ yo.length ∧ ∀ j, j < k → 0 ≤ nth yo j ∧ nth yo j < h)
    (fun _ i => yo.length - (intOf i).toNat)
  case atStart => exact ⟨0, rfl, Nat.zero_le _, fun j hj => absurd hj (Nat.not_lt_zero _)⟩
  case round =>
    obtain ⟨k, rfl, hk, hno⟩ := hrel
    have HN := Lib.hid hno
    clear hno
    by_cases hlt : k < yo.length
    · rcases HR2.out.o with h | ⟨b, o, rfl, hc⟩
      · rw [h] at hlt; exact absurd hlt (Nat.not_lt_zero _)
      have hcell := hc k hlt
      have hi0 : (k : Int) < (yo.length : Int) := by omega
      clear hc
      by_cases e1 : nth yo k < 0
      · have HX := Lib.hid (tell_false (p := SchOk h yo f l z) (fun q => by have := (q.2.2.2.2 k hlt).1; omega))
        go_wp2_with fail
        go_ret
        exact ⟨ret_bool HX.out.symm, HB2.out⟩
      by_cases e2 : h ≤ nth yo k
      · have HX := Lib.hid (tell_false (p := SchOk h yo f l z) (fun q => by have := (q.2.2.2.2 k hlt).2; omega))
        go_wp2_with fail
        go_ret
        exact ⟨ret_bool HX.out.symm, HB2.out⟩
      have HE := Lib.hid (show 0 ≤ nth yo k ∧ nth yo k < h by omega)
      go_wp2_with fail
      go_round
      case rel => exact ⟨k + 1, by go_num, by omega, fun j hj => by
            by_cases e : j = k
            · subst e; exact HE.out
            · exact HN.out j (by omega)⟩
      case measure => simp [intOf]; omega
    · have HX := Lib.hid (tell_true (p := SchOk h yo f l z) ⟨⟨by omega, by omega⟩, HM.out, by omega, H4.out, fun r hr => HN.out r (by omega)⟩)
      go_wp2_with fail
      go_ret
      exact ⟨ret_bool HX.out.symm, HB2.out⟩

set_option maxRecDepth 100000 in
set_option maxHeartbeats 2000000 in
theorem l04Ok_any (q0 : Nat) (h f l : Int) (ao : Option Addr) (yo : List Int) (co : Nat) (a : Option Addr) (z : List (List Int)) (c : Nat) (w : World) (hbx : Boxes w q0 48 #[.int .i64 h, .slice ao yo.length co, .int .i64 f, .int .i64 l, .slice a z.length c]) (hr : InS w ao yo a z) (hl : LenS yo z) :
    Calls Try.prog 59 #[.pointer (some ⟨q0, 0, none⟩)] w fun e w' => e = .returned (.bool (tell (SchOk h yo f l z))) ∧ Quiet w w' := by
  have hl1 : yo.length ≤ 9223372036854775807 := hl.o
  have HL := Lib.hid hl
  have HR := Lib.hid hr
  have d0 := hbx.s0
  have d1 := hbx.s1
  have d2 := hbx.s2
  have d3 := hbx.s3
  have d4 := hbx.s4
  clear hl hr hbx
  by_cases h1 : 1 ≤ h ∧ h ≤ 7
  case neg =>
    have t1 := Lib.hid (show (decide (1 ≤ h) && decide (h ≤ 7)) = false by by_cases q1 : 1 ≤ h <;> by_cases q2 : h ≤ 7 <;> simp [q1, q2] <;> omega)
    have HN := Lib.hid (tell_false (p := SchOk h yo f l z) (fun q => h1 q.1))
    clear h1
    go_enter Try.func59, Try.ntmps59
    go_wp2_with fail
    go_quiet ((go_at_call 47; refine Calls.quiet_of (v := .bool false) ?_; refine (l00In_val _ 1 7 false _ t1.out).mono ?_; rintro e w9 ⟨rfl, rfl⟩; exact ⟨rfl, Quiet.refl _⟩))
    go_wp2_with fail
    go_ret
    exact ⟨ret_bool HN.out.symm, ⟨_, rfl⟩⟩
  have t1 := Lib.hid (show (decide (1 ≤ h) && decide (h ≤ 7)) = true by simp; omega)
  have H1 := Lib.hid h1
  clear h1
  by_cases hm : MatOk f l z
  case neg =>
    have HT := Lib.hid (tell_false hm)
    have HN := Lib.hid (tell_false (p := SchOk h yo f l z) (fun q => hm q.2.1))
    clear hm
    go_enter Try.func59, Try.ntmps59
    go_wp2_with fail
    go_quiet ((first | (go_at_call 47; refine Calls.quiet_of (v := .bool true) ?_; refine (l00In_val _ 1 7 true _ t1.out).mono ?_; rintro e w9 ⟨rfl, rfl⟩; exact ⟨rfl, Quiet.refl _⟩) | (go_at_call 81; refine Calls.quiet_of (v := .bool false) ?_; rw [← HT.out]; exact l03Ok2_any q0 f l a z c _ (by simpa using d2) (by simpa using d3) (by simpa using d4) (HR.out.quiet ⟨_, rfl⟩).r HL.out.r)))
    go_wp2_with fail
    go_ret
    exact ⟨ret_bool HN.out.symm, ⟨_, rfl⟩⟩
  have HT := Lib.hid (tell_true hm)
  have HM := Lib.hid hm
  clear hm
  by_cases h3 : l < 1
  · have HN := Lib.hid (tell_false (p := SchOk h yo f l z) (fun q => by have := q.2.2.1; omega))
    have t3 := decide_eq_true h3
    go_enter Try.func59, Try.ntmps59
    go_wp2_with fail
    go_quiet ((first | (go_at_call 47; refine Calls.quiet_of (v := .bool true) ?_; refine (l00In_val _ 1 7 true _ t1.out).mono ?_; rintro e w9 ⟨rfl, rfl⟩; exact ⟨rfl, Quiet.refl _⟩) | (go_at_call 81; refine Calls.quiet_of (v := .bool true) ?_; rw [← HT.out]; exact l03Ok2_any q0 f l a z c _ (by simpa using d2) (by simpa using d3) (by simpa using d4) (HR.out.quiet ⟨_, rfl⟩).r HL.out.r)))
    go_wp2_with fail
    go_ret
    exact ⟨ret_bool HN.out.symm, ⟨_, rfl⟩⟩
  have t3 := decide_eq_false h3
  by_cases h4 : yo.length = z.length
  case neg =>
    have HN := Lib.hid (tell_false (p := SchOk h yo f l z) (fun q => h4 q.2.2.2.1))
    have t4 : ((yo.length : Int) != (z.length : Int)) = true := by simp; omega
    have t5 : (yo.length != z.length) = true := by simp [h4]
    clear h4
    go_enter Try.func59, Try.ntmps59
    go_wp2_with fail
    go_quiet ((first | (go_at_call 47; refine Calls.quiet_of (v := .bool true) ?_; refine (l00In_val _ 1 7 true _ t1.out).mono ?_; rintro e w9 ⟨rfl, rfl⟩; exact ⟨rfl, Quiet.refl _⟩) | (go_at_call 81; refine Calls.quiet_of (v := .bool true) ?_; rw [← HT.out]; exact l03Ok2_any q0 f l a z c _ (by simpa using d2) (by simpa using d3) (by simpa using d4) (HR.out.quiet ⟨_, rfl⟩).r HL.out.r)))
    go_wp2_with fail
    go_ret
    exact ⟨ret_bool HN.out.symm, ⟨_, rfl⟩⟩
  have t4 : ((yo.length : Int) != (z.length : Int)) = false := by simp [h4]
  have t5 : (yo.length != z.length) = false := by simp [h4]
  have H4 := Lib.hid h4
  clear h4
  go_enter Try.func59, Try.ntmps59
  go_wp2_with fail
  go_quiet ((first | (go_at_call 47; refine Calls.quiet_of (v := .bool true) ?_; refine (l00In_val _ 1 7 true _ t1.out).mono ?_; rintro e w9 ⟨rfl, rfl⟩; exact ⟨rfl, Quiet.refl _⟩) | (go_at_call 81; refine Calls.quiet_of (v := .bool true) ?_; rw [← HT.out]; exact l03Ok2_any q0 f l a z c _ (by simpa using d2) (by simpa using d3) (by simpa using d4) (HR.out.quiet ⟨_, rfl⟩).r HL.out.r)))
  go_wp2_with fail
  have HWR := Lib.hid (show IntKind.i64.wrap (h - 1) = h - 1 from IntWalk.i64_in _ (by have := H1.out; omega))
  go_loopw [3] (fun i wr => ∃ k : Nat, i = .int .i64 k ∧ k ≤ yo.length ∧ Quiet w wr ∧ ∀ j, j < k → 0 ≤ nth yo j ∧ nth yo j < h)
    (fun i _ => yo.length - (intOf i).toNat)
  case atStart => exact ⟨0, rfl, Nat.zero_le _, ⟨_, rfl⟩, fun j hj => absurd hj (Nat.not_lt_zero _)⟩
  case round =>
    obtain ⟨k, rfl, hk, hq, hno⟩ := hrel
    have HN := Lib.hid hno
    have HQ := Lib.hid hq
    have e0 := (hq.cell _).trans d0
    have e1 := (hq.cell _).trans d1
    by_cases hlt : k < yo.length
    · rcases (HR.out.quiet hq).o with h | ⟨b, o, rfl, hc⟩
      · rw [h] at hlt; exact absurd hlt (Nat.not_lt_zero _)
      have hcell := hc k hlt
      have hi0 : (k : Int) < (yo.length : Int) := by omega
      clear hc hno hq d0 d1 d2 d3 d4 t1 t3 t4 t5
      by_cases he : 0 ≤ nth yo k ∧ nth yo k < h
      · have t6 := Lib.hid (show (decide (0 ≤ nth yo k) && decide (nth yo k ≤ h - 1)) = true by simp; omega)
        have HE := Lib.hid he
        clear he
        go_wp2
        go_quiet ((go_at_call 47; refine Calls.quiet_of (v := .bool true) ?_; rw [HWR.out]; refine (l00In_val _ 0 _ true _ t6.out).mono ?_; rintro e w9 ⟨rfl, rfl⟩; exact ⟨rfl, Quiet.refl _⟩))
        go_wp2
        go_roundw
        case rel => exact ⟨k + 1, by go_num, by omega, HQ.out.trans ⟨_, rfl⟩, fun j hj => by
            by_cases e : j = k
            · subst e; exact HE.out
            · exact HN.out j (by omega)⟩
        case measure => simp [intOf]; omega
      · have t6 := Lib.hid (show (decide (0 ≤ nth yo k) && decide (nth yo k ≤ h - 1)) = false by by_cases q1 : 0 ≤ nth yo k <;> by_cases q2 : nth yo k ≤ h - 1 <;> simp [q1, q2] <;> omega)
        have HX := Lib.hid (tell_false (p := SchOk h yo f l z) (fun q => he (q.2.2.2.2 k hlt)))
        clear he
        go_wp2
        go_quiet ((go_at_call 47; refine Calls.quiet_of (v := .bool false) ?_; rw [HWR.out]; refine (l00In_val _ 0 _ false _ t6.out).mono ?_; rintro e w9 ⟨rfl, rfl⟩; exact ⟨rfl, Quiet.refl _⟩))
        go_wp2
        go_ret
        exact ⟨ret_bool HX.out.symm, HQ.out.trans ⟨_, rfl⟩⟩
    · have HX := Lib.hid (tell_true (p := SchOk h yo f l z) ⟨H1.out, HM.out, by omega, H4.out, fun r hr => HN.out r (by omega)⟩)
      clear hno hq d0 d1 d2 d3 d4 t1 t3 t4 t5
      go_wp2
      go_ret
      exact ⟨ret_bool HX.out.symm, HQ.out⟩

end Go.Proofs.Ytnebkhelobpkpaa

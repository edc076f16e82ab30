/- Primes and elements: IsPrime and areElements of the program, IsPrime, l03Two and l03Row of the model. -/
import Derived.Test.YtnebkhelobpkpaaKa
namespace Go.Proofs.Ytnebkhelobpkpaa
open Go.RowKit Go.Deep
set_option linter.unusedVariables false

/-- A prime of a field. -/
def Prm (p : Int) : Prop := 2 ≤ p ∧ p ≤ 31 ∧ ∀ d : Int, 2 ≤ d → d < p → p % d ≠ 0
/-- An element modulo p. -/
def Elem (p z : Int) : Prop := 0 ≤ z ∧ z < p
def Elems (p : Int) (zs : List Int) : Prop := ∀ i, i < zs.length → Elem p (nth zs i)

/-- The code of what is to hold: OK or ErrRange. -/
noncomputable def codeOf (P : Prop) : Int := if tell P = true then 0 else 2
theorem codeOf_yes {P : Prop} (h : P) : codeOf P = 0 := by rw [codeOf, if_pos (tell_true h)]
theorem codeOf_no {P : Prop} (h : ¬ P) : codeOf P = 2 := by rw [codeOf, if_neg (by rw [tell_false h]; simp)]
theorem prm_no {p d : Int} (h1 : 2 ≤ d) (h2 : d < p) (h : p % d = 0) : ¬ Prm p := fun k => k.2.2 d h1 h2 h

set_option maxRecDepth 100000 in
set_option maxHeartbeats 400000 in
theorem implPrime_any (p : Int) (w : World) : Calls Try.prog 139 #[.int .i64 p] w fun e w' => e = .returned (.bool (tell (Prm p))) ∧ w = w' := by
  by_cases h1 : p < 2
  · have hn := Lib.hid (show ¬ Prm p from fun k => by have := k.1; omega)
    go_enter Try.func139, Try.ntmps139
    go_wp2
    go_ret
    exact ⟨ret_bool (tell_false hn.out).symm, rfl⟩
  by_cases h2 : 31 < p
  · have hn := Lib.hid (show ¬ Prm p from fun k => by have := k.2.1; omega)
    go_enter Try.func139, Try.ntmps139
    go_wp2
    go_ret
    exact ⟨ret_bool (tell_false hn.out).symm, rfl⟩
  have g1 : 2 ≤ p := by omega
  have g2 : p ≤ 31 := by omega
  go_enter Try.func139, Try.ntmps139
  go_wp2
  go_loop [3] (fun d => ∃ k : Int, d = .int .i64 k ∧ 2 ≤ k ∧ k ≤ p ∧ ∀ d : Int, 2 ≤ d → d < k → p % d ≠ 0)
    (fun d => (p - intOf d).toNat)
  case atStart => exact ⟨2, rfl, by omega, by omega, fun d h1 h2 => by omega⟩
  case round =>
    obtain ⟨k, rfl, hk2, hkp, hno⟩ := hrel
    have HN := Lib.hid hno
    clear hno
    by_cases hlt : k < p
    · have hk0 : k ≠ 0 := by omega
      have hk0' : (k == 0) = false := by simp; omega
      by_cases hd : p % k = 0
      · have HD := Lib.hid hd
        have hd' : (p % k == 0) = true := by simp [hd]
        clear hd
        go_wp2
        go_ret
        exact ⟨ret_bool (tell_false (prm_no hk2 hlt HD.out)).symm, rfl⟩
      · have HD := Lib.hid hd
        have hd' : (p % k == 0) = false := by simp [hd]
        clear hd
        go_wp2
        go_round
        case rel => exact ⟨k + 1, by go_num, by omega, by omega, fun d h1 h2 => by
          by_cases e : d = k
          · subst e; exact HD.out
          · exact HN.out d h1 (by omega)⟩
        case measure => simp [intOf]; omega
    · have HE := Lib.hid (show k = p by omega)
      go_wp2
      go_ret
      exact ⟨ret_bool (tell_true ⟨g1, g2, fun d h1 h2 => HN.out d h1 (by have := HE.out; omega)⟩).symm, rfl⟩

set_option maxRecDepth 100000 in
set_option maxHeartbeats 400000 in
theorem specPrime_any (p : Int) (w : World) : Calls Try.prog 130 #[.int .i64 p] w fun e w' => e = .returned (.bool (tell (Prm p))) ∧ w = w' := by
  by_cases h1 : 2 ≤ p ∧ p ≤ 31
  · have t1 := Lib.hid (show (decide (2 ≤ p) && decide (p ≤ 31)) = true by simp; omega)
    have g1 : 2 ≤ p := h1.1
    have g2 : p ≤ 31 := h1.2
    clear h1
    go_enter Try.func130, Try.ntmps130
    go_wp2_with fail
    refine (l00In_val _ 2 31 true _ t1.out).mono ?_
    rintro e w' ⟨rfl, rfl⟩
    go_wp2
    go_loop [3] (fun d => ∃ k : Int, d = .int .i64 k ∧ 2 ≤ k ∧ k ≤ p ∧ ∀ d : Int, 2 ≤ d → d < k → p % d ≠ 0)
      (fun d => (p - intOf d).toNat)
    case atStart => exact ⟨2, rfl, by omega, by omega, fun d h1 h2 => by omega⟩
    case round =>
      obtain ⟨k, rfl, hk2, hkp, hno⟩ := hrel
      have HN := Lib.hid hno
      clear hno
      by_cases hlt : k < p
      · have hk0 : k ≠ 0 := by omega
        have hk0' : (k == 0) = false := by simp; omega
        by_cases hd : p % k = 0
        · have HD := Lib.hid hd
          have hd' : (p % k == 0) = true := by simp [hd]
          clear hd
          go_wp2
          go_ret
          exact ⟨ret_bool (tell_false (prm_no hk2 hlt HD.out)).symm, rfl⟩
        · have HD := Lib.hid hd
          have hd' : (p % k == 0) = false := by simp [hd]
          clear hd
          go_wp2
          go_round
          case rel => exact ⟨k + 1, by go_num, by omega, by omega, fun d h1 h2 => by
            by_cases e : d = k
            · subst e; exact HD.out
            · exact HN.out d h1 (by omega)⟩
          case measure => simp [intOf]; omega
      · have HE := Lib.hid (show k = p by omega)
        go_wp2
        go_ret
        exact ⟨ret_bool (tell_true ⟨g1, g2, fun d h1 h2 => HN.out d h1 (by have := HE.out; omega)⟩).symm, rfl⟩
  · have t1 := Lib.hid (show (decide (2 ≤ p) && decide (p ≤ 31)) = false by by_cases a : 2 ≤ p <;> by_cases b : p ≤ 31 <;> simp [a, b] <;> omega)
    have hn := Lib.hid (show ¬ Prm p from fun k => h1 ⟨k.1, k.2.1⟩)
    clear h1
    go_enter Try.func130, Try.ntmps130
    go_wp2_with fail
    refine (l00In_val _ 2 31 false _ t1.out).mono ?_
    rintro e w' ⟨rfl, rfl⟩
    go_wp2
    go_ret
    exact ⟨ret_bool (tell_false hn.out).symm, rfl⟩

set_option maxRecDepth 100000 in
set_option maxHeartbeats 400000 in
theorem areElems_any (p : Int) (a : Option Addr) (zs : List Int) (c : Nat) (w : World) (h : Ints w a zs) (hl : zs.length ≤ 9223372036854775807) :
    Calls Try.prog 126 #[.int .i64 p, .slice a zs.length c] w fun e w' => e = .returned (.bool (tell (Elems p zs ∧ Prm p))) ∧ w = w' := by
  go_enter Try.func126, Try.ntmps126
  go_wp2
  go_loop [6, 9] (fun n i => ∃ k : Nat, i = .int .i64 k ∧ k ≤ zs.length ∧ ∀ j, j < k → Elem p (nth zs j))
    (fun _ i => zs.length - (intOf i).toNat)
  case atStart => exact ⟨0, rfl, Nat.zero_le _, fun j hj => absurd hj (Nat.not_lt_zero _)⟩
  case round =>
    obtain ⟨k, rfl, hk, hno⟩ := hrel
    have HN := Lib.hid hno
    clear hno
    by_cases hlt : k < zs.length
    · rcases h with h | ⟨b, o, rfl, hc⟩
      · rw [h] at hlt; exact absurd hlt (Nat.not_lt_zero _)
      have hcell := hc k hlt
      have hi0 : (k : Int) < (zs.length : Int) := by omega
      clear hc
      by_cases he : Elem p (nth zs k)
      · have e1 : ¬ nth zs k < 0 := by have := he.1; omega
        have e2 : ¬ p ≤ nth zs k := by have := he.2; omega
        have HE := Lib.hid he
        clear he
        go_wp2
        go_round
        case rel => exact ⟨k + 1, by go_num, by omega, fun j hj => by
          by_cases e : j = k
          · subst e; exact HE.out
          · exact HN.out j (by omega)⟩
        case measure => simp [intOf]; omega
      · have HE := Lib.hid (show ¬ (Elems p zs ∧ Prm p) from fun q => he (q.1 k hlt))
        by_cases e1 : nth zs k < 0
        · clear he
          go_wp2
          go_ret
          exact ⟨ret_bool (tell_false HE.out).symm, rfl⟩
        · have e2 : p ≤ nth zs k := by unfold Elem at he; omega
          clear he
          go_wp2
          go_ret
          exact ⟨ret_bool (tell_false HE.out).symm, rfl⟩
    · have HE := Lib.hid (show Elems p zs from fun i hi => HN.out i (by omega))
      go_wp2_with fail
      refine (implPrime_any p w).mono ?_
      rintro e w' ⟨rfl, rfl⟩
      go_wp2
      go_ret
      exact ⟨ret_bool (tell_congr ⟨fun q => ⟨HE.out, q⟩, fun q => q.2⟩), rfl⟩

end Go.Proofs.Ytnebkhelobpkpaa

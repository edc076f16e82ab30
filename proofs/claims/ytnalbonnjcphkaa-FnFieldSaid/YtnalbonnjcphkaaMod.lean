/- The contracts of AddMod, MulMod, PowerMod, InverseMod, the program's and the model's. -/
import Derived.Test.YtnalbonnjcphkaaPow
namespace Go.Proofs.Ytnalbonnjcphkaa
open Go.RowKit Go.Deep
set_option linter.unusedVariables false

theorem Try.infoElt : (Try.prog.info? 33).map (fun i => (i.zero, i.size, i.bytes)) = some (some (.agg #[.int .i64 0, .int .i64 0]), 2, 16) := by kernel_rfl
theorem run_field_elt (p v : Int) (w : World) : Sem.run Try.prog (Instr.field 33 (.agg #[.int .i64 p, .int .i64 v]) 1) w = .ok (.int .i64 v) w := by
  simp [Instr.field, asAgg, go_sem]
theorem elems2 {p a b : Int} : (Elems p [a, b] ∧ Prm p) ↔ (Prm p ∧ Elem p a ∧ Elem p b) :=
  ⟨fun h => ⟨h.2, h.1 0 (by simp), h.1 1 (by simp)⟩, fun h => ⟨fun i hi => by
    match i, hi with
    | 0, _ => exact h.2.1
    | 1, _ => exact h.2.2, h.1⟩⟩
theorem elems1 {p a : Int} : (Elems p [a] ∧ Prm p) ↔ (Prm p ∧ Elem p a) :=
  ⟨fun h => ⟨h.2, h.1 0 (by simp)⟩, fun h => ⟨fun i hi => by
    match i, hi with
    | 0, _ => exact h.2, h.1⟩⟩
theorem zero_elem {p : Int} (h : Prm p) : Elem p 0 := ⟨by omega, by have := h.1; omega⟩
theorem elem0 {p a : Int} : (Prm p ∧ Elem p a ∧ Elem p 0) ↔ (Prm p ∧ Elem p a) := ⟨fun h => ⟨h.1, h.2.1⟩, fun h => ⟨h.1, h.2, zero_elem h.1⟩⟩

/-- A number where something holds, and its code; 0 and a code else. -/
noncomputable def numOf (P : Prop) (n : Int) : Int := if tell P = true then n else 0
theorem numOf_yes {P : Prop} {n : Int} (h : P) : numOf P n = n := by rw [numOf, if_pos (tell_true h)]
theorem numOf_no {P : Prop} {n : Int} (h : ¬ P) : numOf P n = 0 := by rw [numOf, if_neg (by rw [tell_false h]; simp)]
theorem ret_two {a b c d : Int} (h : a = c) (k : b = d) : Ending.returned (.tuple #[.int .i64 a, .int .i64 b]) = .returned (.tuple #[.int .i64 c, .int .i64 d]) := by rw [h, k]

set_option maxRecDepth 100000 in
theorem implAddMod_any (p a b : Int) (w : World) : Calls Try.prog 8 #[.int .i64 p, .int .i64 a, .int .i64 b] w fun e w' => e = .returned (.tuple #[.int .i64 (numOf (Prm p ∧ Elem p a ∧ Elem p b) ((a + b) % p)), .int .i64 (codeOf (Prm p ∧ Elem p a ∧ Elem p b))]) ∧ Below w.heap.size w w' := by
  have hb0 := (Below.refl w.heap.size w).alloc (Nat.le_refl _) (.cells #[.int .i64 a, .int .i64 b] 2)
  have hi : Ints (w.alloc (.cells #[.int .i64 a, .int .i64 b] 2)) (some ⟨w.heap.size, 0, none⟩) [a, b] := .inr ⟨_, 0, rfl, fun i hi => by
    match i, hi with
    | 0, _ => simp [nth]
    | 1, _ => simp [nth]⟩
  by_cases h : Prm p ∧ Elem p a ∧ Elem p b
  · have HC := Lib.hid (codeOf_yes h)
    have HN := Lib.hid (numOf_yes (n := (a + b) % p) h)
    have HT := Lib.hid (tell_true (elems2.2 h))
    obtain ⟨hp2, hp3⟩ : 2 ≤ p ∧ p ≤ 31 := ⟨h.1.1, h.1.2.1⟩
    have HA := Lib.hid h.2.1
    have HB := Lib.hid h.2.2
    clear h
    go_enter Try.func8, Try.ntmps8
    go_wp2_with fail
    refine (areElems_any p _ [a, b] 2 _ hi (by simp)).mono ?_
    rintro e w' ⟨rfl, rfl⟩
    generalize w.alloc (.cells #[.int .i64 a, .int .i64 b] 2) = w1 at *
    rw [HT.out]
    go_wp2_with fail
    refine (number_any p a _).mono ?_
    rintro e w2 ⟨rfl, hb⟩
    have HB2 := Lib.hid (hb0.trans (hb.mono hb0.size))
    clear hb hb0 hi
    go_wp2_with fail
    refine (number_any p b _).mono ?_
    rintro e w3 ⟨rfl, hb⟩
    have HB3 := Lib.hid (HB2.out.trans (hb.mono HB2.out.size))
    clear hb
    go_wp2_with fail
    refine (plus_any p a b _ hp2 hp3 HA.out HB.out).mono ?_
    rintro e w4 ⟨rfl, hb⟩
    have HB4 := Lib.hid (HB3.out.trans (hb.mono HB3.out.size))
    clear hb
    have hfl := run_field_elt p ((a + b) % p)
    go_wp2
    go_ret2
    exact ⟨ret_two HN.out.symm HC.out.symm, HB4.out⟩
  · have HC := Lib.hid (codeOf_no h)
    have HN := Lib.hid (numOf_no (n := (a + b) % p) h)
    have HT := Lib.hid (tell_false (fun k => h (elems2.1 k)))
    clear h
    go_enter Try.func8, Try.ntmps8
    go_wp2_with fail
    refine (areElems_any p _ [a, b] 2 _ hi (by simp)).mono ?_
    rintro e w' ⟨rfl, rfl⟩
    rw [HT.out]
    go_wp2
    go_ret2
    exact ⟨ret_two HN.out.symm HC.out.symm, hb0⟩

set_option maxRecDepth 100000 in
theorem implMulMod_any (p a b : Int) (w : World) : Calls Try.prog 9 #[.int .i64 p, .int .i64 a, .int .i64 b] w fun e w' => e = .returned (.tuple #[.int .i64 (numOf (Prm p ∧ Elem p a ∧ Elem p b) ((a * b) % p)), .int .i64 (codeOf (Prm p ∧ Elem p a ∧ Elem p b))]) ∧ Below w.heap.size w w' := by
  have hb0 := (Below.refl w.heap.size w).alloc (Nat.le_refl _) (.cells #[.int .i64 a, .int .i64 b] 2)
  have hi : Ints (w.alloc (.cells #[.int .i64 a, .int .i64 b] 2)) (some ⟨w.heap.size, 0, none⟩) [a, b] := .inr ⟨_, 0, rfl, fun i hi => by
    match i, hi with
    | 0, _ => simp [nth]
    | 1, _ => simp [nth]⟩
  by_cases h : Prm p ∧ Elem p a ∧ Elem p b
  · have HC := Lib.hid (codeOf_yes h)
    have HN := Lib.hid (numOf_yes (n := (a * b) % p) h)
    have HT := Lib.hid (tell_true (elems2.2 h))
    obtain ⟨hp2, hp3⟩ : 2 ≤ p ∧ p ≤ 31 := ⟨h.1.1, h.1.2.1⟩
    have HA := Lib.hid h.2.1
    have HB := Lib.hid h.2.2
    clear h
    go_enter Try.func9, Try.ntmps9
    go_wp2_with fail
    refine (areElems_any p _ [a, b] 2 _ hi (by simp)).mono ?_
    rintro e w' ⟨rfl, rfl⟩
    generalize w.alloc (.cells #[.int .i64 a, .int .i64 b] 2) = w1 at *
    rw [HT.out]
    go_wp2_with fail
    refine (number_any p a _).mono ?_
    rintro e w2 ⟨rfl, hb⟩
    have HB2 := Lib.hid (hb0.trans (hb.mono hb0.size))
    clear hb hb0 hi
    go_wp2_with fail
    refine (number_any p b _).mono ?_
    rintro e w3 ⟨rfl, hb⟩
    have HB3 := Lib.hid (HB2.out.trans (hb.mono HB2.out.size))
    clear hb
    go_wp2_with fail
    refine (times_any p a b _ hp2 hp3 HA.out HB.out).mono ?_
    rintro e w4 ⟨rfl, hb⟩
    have HB4 := Lib.hid (HB3.out.trans (hb.mono HB3.out.size))
    clear hb
    have hfl := run_field_elt p ((a * b) % p)
    go_wp2
    go_ret2
    exact ⟨ret_two HN.out.symm HC.out.symm, HB4.out⟩
  · have HC := Lib.hid (codeOf_no h)
    have HN := Lib.hid (numOf_no (n := (a * b) % p) h)
    have HT := Lib.hid (tell_false (fun k => h (elems2.1 k)))
    clear h
    go_enter Try.func9, Try.ntmps9
    go_wp2_with fail
    refine (areElems_any p _ [a, b] 2 _ hi (by simp)).mono ?_
    rintro e w' ⟨rfl, rfl⟩
    rw [HT.out]
    go_wp2
    go_ret2
    exact ⟨ret_two HN.out.symm HC.out.symm, hb0⟩


def PowOk (p a n : Int) : Prop := (Prm p ∧ Elem p a) ∧ 0 ≤ n ∧ n ≤ 1000

theorem ints_one (a : Int) (w : World) : Ints (w.alloc (.cells #[.int .i64 a] 2)) (some ⟨w.heap.size, 0, none⟩) [a] := .inr ⟨_, 0, rfl, fun i hi => by
    match i, hi with
    | 0, _ => simp [nth]⟩

set_option maxRecDepth 100000 in
theorem implPowerMod_any (p a n : Int) (w : World) : Calls Try.prog 11 #[.int .i64 p, .int .i64 a, .int .i64 n] w fun e w' => e = .returned (.tuple #[.int .i64 (numOf (PowOk p a n) (powOf p a n.toNat)), .int .i64 (codeOf (PowOk p a n))]) ∧ Below w.heap.size w w' := by
  have hb0 := (Below.refl w.heap.size w).alloc (Nat.le_refl _) (.cells #[.int .i64 a] 2)
  have hi := ints_one a w
  by_cases h : Prm p ∧ Elem p a
  · have HT := Lib.hid (tell_true (elems1.2 h))
    obtain ⟨hp2, hp3⟩ : 2 ≤ p ∧ p ≤ 31 := ⟨h.1.1, h.1.2.1⟩
    have HA := Lib.hid h.2
    by_cases hn : 0 ≤ n ∧ n ≤ 1000
    · have hk : PowOk p a n := ⟨h, hn⟩
      have HC := Lib.hid (codeOf_yes hk)
      have HN := Lib.hid (numOf_yes (n := powOf p a n.toNat) hk)
      obtain ⟨m, rfl⟩ : ∃ m : Nat, n = (m : Int) := ⟨n.toNat, by omega⟩
      have hm : m ≤ 1000 := by omega
      clear h hn hk
      go_enter Try.func11, Try.ntmps11
      go_wp2_with fail
      refine (areElems_any p _ [a] 1 _ hi (by simp)).mono ?_
      rintro e w' ⟨rfl, rfl⟩
      generalize w.alloc (.cells #[.int .i64 a] 2) = w1 at *
      rw [HT.out]
      go_wp2_with fail
      refine (number_any p a _).mono ?_
      rintro e w2 ⟨rfl, hb⟩
      have HB2 := Lib.hid (hb0.trans (hb.mono hb0.size))
      clear hb hb0 hi
      go_wp2_with fail
      refine (power_any p a m _ hp2 hp3 HA.out hm).mono ?_
      rintro e w4 ⟨rfl, hb⟩
      have HB4 := Lib.hid (HB2.out.trans (hb.mono HB2.out.size))
      clear hb
      have hfl := run_field_elt p (powOf p a m)
      go_wp2
      go_ret2
      exact ⟨ret_two HN.out.symm HC.out.symm, HB4.out⟩
    · have hk : ¬ PowOk p a n := fun k => hn k.2
      have HC := Lib.hid (codeOf_no hk)
      have HN := Lib.hid (numOf_no (n := powOf p a n.toNat) hk)
      by_cases h0 : n < 0
      · clear h hn hk
        go_enter Try.func11, Try.ntmps11
        go_wp2_with fail
        refine (areElems_any p _ [a] 1 _ hi (by simp)).mono ?_
        rintro e w' ⟨rfl, rfl⟩
        rw [HT.out]
        go_wp2
        go_ret2
        exact ⟨ret_two HN.out.symm HC.out.symm, hb0⟩
      · have h1 : 1000 < n := by omega
        clear h hn hk
        go_enter Try.func11, Try.ntmps11
        go_wp2_with fail
        refine (areElems_any p _ [a] 1 _ hi (by simp)).mono ?_
        rintro e w' ⟨rfl, rfl⟩
        rw [HT.out]
        go_wp2
        go_ret2
        exact ⟨ret_two HN.out.symm HC.out.symm, hb0⟩
  · have HT := Lib.hid (tell_false (fun k => h (elems1.1 k)))
    have hk : ¬ PowOk p a n := fun k => h k.1
    have HC := Lib.hid (codeOf_no hk)
    have HN := Lib.hid (numOf_no (n := powOf p a n.toNat) hk)
    clear h hk
    go_enter Try.func11, Try.ntmps11
    go_wp2_with fail
    refine (areElems_any p _ [a] 1 _ hi (by simp)).mono ?_
    rintro e w' ⟨rfl, rfl⟩
    rw [HT.out]
    go_wp2
    go_ret2
    exact ⟨ret_two HN.out.symm HC.out.symm, hb0⟩

/-- The code of an inverse. -/
noncomputable def invCode (p a : Int) : Int := if tell (Prm p ∧ Elem p a) = true then (if a = 0 then 4 else 0) else 2
theorem invCode_yes {p a : Int} (h : Prm p ∧ Elem p a) (ha : a ≠ 0) : invCode p a = 0 := by rw [invCode, if_pos (tell_true h), if_neg ha]
theorem invCode_zero {p : Int} (h : Prm p ∧ Elem p 0) : invCode p 0 = 4 := by rw [invCode, if_pos (tell_true h), if_pos rfl]
theorem invCode_no {p a : Int} (h : ¬ (Prm p ∧ Elem p a)) : invCode p a = 2 := by rw [invCode, if_neg (by rw [tell_false h]; simp)]
def InvOk (p a : Int) : Prop := (Prm p ∧ Elem p a) ∧ a ≠ 0

set_option maxRecDepth 100000 in
theorem implInverseMod_any (p a : Int) (w : World) : Calls Try.prog 10 #[.int .i64 p, .int .i64 a] w fun e w' => e = .returned (.tuple #[.int .i64 (numOf (InvOk p a) (powOf p a (p - 2).toNat)), .int .i64 (invCode p a)]) ∧ Below w.heap.size w w' := by
  have hb0 := (Below.refl w.heap.size w).alloc (Nat.le_refl _) (.cells #[.int .i64 a] 2)
  have hi := ints_one a w
  by_cases h : Prm p ∧ Elem p a
  · have HT := Lib.hid (tell_true (elems1.2 h))
    obtain ⟨hp2, hp3⟩ : 2 ≤ p ∧ p ≤ 31 := ⟨h.1.1, h.1.2.1⟩
    have HA := Lib.hid h.2
    by_cases ha : a = 0
    · subst ha
      have HC := Lib.hid (invCode_zero h)
      have HN := Lib.hid (numOf_no (P := InvOk p 0) (n := powOf p 0 (p - 2).toNat) (fun k => k.2 rfl))
      clear h
      go_enter Try.func10, Try.ntmps10
      go_wp2_with fail
      refine (areElems_any p _ [0] 1 _ hi (by simp)).mono ?_
      rintro e w' ⟨rfl, rfl⟩
      rw [HT.out]
      go_wp2
      go_ret2
      exact ⟨ret_two HN.out.symm HC.out.symm, hb0⟩
    · have HC := Lib.hid (invCode_yes h ha)
      have HN := Lib.hid (numOf_yes (P := InvOk p a) (n := powOf p a (p - 2).toNat) ⟨h, ha⟩)
      have ha' : (a == 0) = false := by simp [ha]
      clear h
      go_enter Try.func10, Try.ntmps10
      go_wp2_with fail
      refine (areElems_any p _ [a] 1 _ hi (by simp)).mono ?_
      rintro e w' ⟨rfl, rfl⟩
      generalize w.alloc (.cells #[.int .i64 a] 2) = w1 at *
      rw [HT.out]
      go_wp2_with fail
      refine (number_any p a _).mono ?_
      rintro e w2 ⟨rfl, hb⟩
      have HB2 := Lib.hid (hb0.trans (hb.mono hb0.size))
      clear hb hb0 hi
      go_wp2_with fail
      refine (inverse_any p a _ hp2 hp3 HA.out).mono ?_
      rintro e w4 ⟨rfl, hb⟩
      have HB4 := Lib.hid (HB2.out.trans (hb.mono HB2.out.size))
      clear hb
      have hfl := run_field_elt p (powOf p a (p - 2).toNat)
      go_wp2
      go_ret2
      exact ⟨ret_two HN.out.symm HC.out.symm, HB4.out⟩
  · have HT := Lib.hid (tell_false (fun k => h (elems1.1 k)))
    have HC := Lib.hid (invCode_no h)
    have HN := Lib.hid (numOf_no (P := InvOk p a) (n := powOf p a (p - 2).toNat) (fun k => h k.1))
    clear h
    go_enter Try.func10, Try.ntmps10
    go_wp2_with fail
    refine (areElems_any p _ [a] 1 _ hi (by simp)).mono ?_
    rintro e w' ⟨rfl, rfl⟩
    rw [HT.out]
    go_wp2
    go_ret2
    exact ⟨ret_two HN.out.symm HC.out.symm, hb0⟩

end Go.Proofs.Ytnalbonnjcphkaa

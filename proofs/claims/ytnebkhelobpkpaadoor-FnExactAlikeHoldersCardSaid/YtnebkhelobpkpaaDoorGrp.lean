/- Groups, their bits, their order: plain mathematics. -/
import Derived.Test.YtnebkhelobpkpaaDoorMem
namespace Go.Proofs.YtnebkhelobpkpaaDoor
open Go.RowKit Go.Deep

/-- A proposition as a Bool, by one instance alone. -/
noncomputable def tell (p : Prop) : Bool := @decide p (Classical.propDecidable p)
theorem tell_true {p : Prop} (h : p) : tell p = true := @decide_eq_true p (Classical.propDecidable p) h
theorem tell_false {p : Prop} (h : ¬ p) : tell p = false := @decide_eq_false p (Classical.propDecidable p) h
theorem of_tell {p : Prop} (h : tell p = true) : p := @of_decide_eq_true p (Classical.propDecidable p) h
theorem of_tell_false {p : Prop} (h : tell p = false) : ¬ p := @of_decide_eq_false p (Classical.propDecidable p) h
theorem tell_congr {p q : Prop} (h : p ↔ q) : tell p = tell q := by rw [propext h]
theorem tell_not {p : Prop} : (!tell p) = tell (¬ p) := by
  by_cases h : p
  · rw [tell_true h, tell_false (fun k => k h)]; rfl
  · rw [tell_false h, tell_true h]; rfl

theorem decide_tell {p : Prop} [Decidable p] : decide p = tell p := by
  by_cases h : p
  · rw [tell_true h, decide_eq_true h]
  · rw [tell_false h, decide_eq_false h]
theorem beq_tell (x y : Nat) : (((x : Nat) : Int) == ((y : Nat) : Int)) = tell (x = y) := by
  by_cases h : x = y
  · rw [tell_true h, h]; simp
  · rw [tell_false h]; simp; omega
theorem ret_bool {a b : Bool} (h : a = b) : Ending.returned (.bool a) = .returned (.bool b) := by rw [h]
theorem ret_i64 {a b : Int} (h : a = b) : Ending.returned (.int .i64 a) = .returned (.int .i64 b) := by rw [h]

def GrpAt (lo hi : Int) (l : List Int) (i : Nat) : Prop := lo ≤ nth l i ∧ nth l i ≤ hi ∧ (0 < i → nth l (i - 1) < nth l i)
/-- 'l00Rises': the numbers rise, within bounds. -/
def Rises (lo hi : Int) (l : List Int) : Prop := ∀ i, i < l.length → GrpAt lo hi l i
def IsGrp (n : Int) (l : List Int) : Prop := Rises 0 (n - 1) l

theorem rises_step {lo hi : Int} {l : List Int} {k : Nat} (h : ∀ i, i < k → GrpAt lo hi l i) (hk : GrpAt lo hi l k) : ∀ i, i < k + 1 → GrpAt lo hi l i := fun i hi => by
  by_cases e : i = k
  · subst e; exact hk
  · exact h i (by omega)

def bitsTo (l : List Int) : Nat → Nat
  | 0 => 0
  | k + 1 => bitsTo l k ||| 2 ^ (nth l k).toNat
def bitsOf (l : List Int) : Nat := bitsTo l l.length

theorem bitsTo_lt {n : Int} {l : List Int} (h : IsGrp n l) (hn : n ≤ 7) : ∀ k, k ≤ l.length → bitsTo l k < 128
  | 0, _ => by simp [bitsTo]
  | k + 1, hk => by
    have h1 := bitsTo_lt h hn k (by omega)
    obtain ⟨h2, h3, _⟩ := h k (by omega)
    have h4 : (2 : Nat) ^ (nth l k).toNat < 2 ^ 7 := Nat.pow_lt_pow_right (by omega) (by omega)
    exact Nat.or_lt_two_pow (n := 7) h1 h4
theorem bitsOf_lt {n : Int} {l : List Int} (h : IsGrp n l) (hn : n ≤ 7) : bitsOf l < 128 := bitsTo_lt h hn _ (Nat.le_refl _)

/-- The lexicographic order: -1, 0, 1. -/
def lexCmp : List Int → List Int → Int
  | [], [] => 0
  | [], _ :: _ => -1
  | _ :: _, [] => 1
  | x :: xs, y :: ys => if x < y then -1 else if y < x then 1 else lexCmp xs ys

theorem drop_nth {l : List Int} {k : Nat} (h : k < l.length) : l.drop k = nth l k :: l.drop (k + 1) := by
  rw [nth_lt h]; exact List.drop_eq_getElem_cons h

theorem lexCmp_drop {a b : List Int} {k : Nat} (ha : k < a.length) (hb : k < b.length) :
    lexCmp (a.drop k) (b.drop k) = if nth a k < nth b k then -1 else if nth b k < nth a k then 1 else lexCmp (a.drop (k + 1)) (b.drop (k + 1)) := by
  rw [drop_nth ha, drop_nth hb]; rfl
theorem lexCmp_end {a b : List Int} {k : Nat} (ha : a.length ≤ k) (hb : b.length ≤ k) : lexCmp (a.drop k) (b.drop k) = 0 := by
  rw [List.drop_eq_nil_of_le ha, List.drop_eq_nil_of_le hb]; rfl
theorem lexCmp_left {a b : List Int} {k : Nat} (ha : a.length ≤ k) (hb : k < b.length) : lexCmp (a.drop k) (b.drop k) = -1 := by
  rw [List.drop_eq_nil_of_le ha, drop_nth hb]; rfl
theorem lexCmp_right {a b : List Int} {k : Nat} (ha : k < a.length) (hb : b.length ≤ k) : lexCmp (a.drop k) (b.drop k) = 1 := by
  rw [List.drop_eq_nil_of_le hb, drop_nth ha]; rfl

def Before (a b : List Int) : Prop := lexCmp a b < 0
def Part (a b : List Int) : Prop := bitsOf a &&& bitsOf b = bitsOf a

def AllGrp (h : Int) (zss : List (List Int)) : Prop := ∀ i, i < zss.length → IsGrp h (nthL zss i) ∧ (0 < i → Before (nthL zss (i - 1)) (nthL zss i))
def NoPart (zss : List (List Int)) : Prop := ∀ i, i < zss.length → ∀ j, j < zss.length → i ≠ j → ¬ Part (nthL zss i) (nthL zss j)
/-- A family is valid. -/
def FamOk (h : Int) (zss : List (List Int)) : Prop := (1 ≤ h ∧ h ≤ 7) ∧ AllGrp h zss ∧ NoPart zss

theorem part_iff (x y : Nat) (hx : x < 128) (hy : y < 128) : x &&& (18446744073709551615 - y) = 0 ↔ x &&& y = x := by
  have hb : ∀ i, (x &&& (18446744073709551615 - y)).testBit i = (x.testBit i && !y.testBit i) := fun i => by
    have h3 : (2 ^ 64 - (y + 1)).testBit i = (decide (i < 64) && !y.testBit i) := Nat.testBit_two_pow_sub_succ (by omega) i
    have h4 : (18446744073709551615 - y) = 2 ^ 64 - (y + 1) := by omega
    rw [Nat.testBit_and, h4, h3]
    by_cases hi : i < 64
    · simp [hi]
    · have : x.testBit i = false := Nat.testBit_lt_two_pow (Nat.lt_of_lt_of_le hx (Nat.le_trans (by decide : 128 ≤ 2 ^ 7) (Nat.pow_le_pow_right (by omega) (by omega))))
      simp [this]
  constructor
  · intro h
    apply Nat.eq_of_testBit_eq
    intro i
    have h2 := hb i
    rw [h] at h2
    rw [Nat.testBit_and]
    cases hx : x.testBit i <;> simp_all
  · intro h
    apply Nat.eq_of_testBit_eq
    intro i
    have h2 : (x &&& y).testBit i = x.testBit i := by rw [h]
    rw [Nat.testBit_and] at h2
    rw [hb i]
    cases hx : x.testBit i <;> simp_all
end Go.Proofs.YtnebkhelobpkpaaDoor

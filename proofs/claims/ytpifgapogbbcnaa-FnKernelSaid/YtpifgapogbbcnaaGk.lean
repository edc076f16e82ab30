/- Groups, their bits, and the checks of them (over the kit Ka). -/
import Derived.Test.YtpifgapogbbcnaaKa
namespace Go.Proofs.Ytpifgapogbbcnaa
open Go.RowKit Go.Deep
set_option linter.unusedVariables false

theorem beq_tell (x y : Nat) : (((x : Nat) : Int) == ((y : Nat) : Int)) = tell (x = y) := by
  by_cases h : x = y
  · rw [tell_true h, h]; simp
  · rw [tell_false h]; simp; omega
def GrpAt (lo hi : Int) (l : List Int) (i : Nat) : Prop := lo ≤ nth l i ∧ nth l i ≤ hi ∧ (0 < i → nth l (i - 1) < nth l i)
/-- 'l00Rises': the numbers rise, within bounds. -/
def Rises (lo hi : Int) (l : List Int) : Prop := ∀ i, i < l.length → GrpAt lo hi l i
def IsGrp (n : Int) (l : List Int) : Prop := Rises 0 (n - 1) l
theorem rises_step {lo hi : Int} {l : List Int} {k : Nat} (h : ∀ i, i < k → GrpAt lo hi l i) (hk : GrpAt lo hi l k) : ∀ i, i < k + 1 → GrpAt lo hi l i := fun i hi => by
  by_cases e : i = k
  · subst e; exact hk
  · exact h i (by omega)
def bitsTo (l : List Int) : Nat → Nat
  | 0 => 0
  | k + 1 => bitsTo l k ||| 2 ^ (nth l k).toNat
def bitsOf (l : List Int) : Nat := bitsTo l l.length
theorem bitsTo_lt {n : Int} {l : List Int} (h : IsGrp n l) (hn : n ≤ 7) : ∀ k, k ≤ l.length → bitsTo l k < 128
  | 0, _ => by simp [bitsTo]
  | k + 1, hk => by
    have h1 := bitsTo_lt h hn k (by omega)
    obtain ⟨h2, h3, _⟩ := h k (by omega)
    have h4 : (2 : Nat) ^ (nth l k).toNat < 2 ^ 7 := Nat.pow_lt_pow_right (by omega) (by omega)
    exact Nat.or_lt_two_pow (n := 7) h1 h4
theorem bitsOf_lt {n : Int} {l : List Int} (h : IsGrp n l) (hn : n ≤ 7) : bitsOf l < 128 := bitsTo_lt h hn _ (Nat.le_refl _)
theorem pow_small {n : Nat} (h : n ≤ 6) : (2 : Nat) ^ n < 128 := Nat.lt_of_lt_of_le (Nat.pow_lt_pow_right (by omega) (by omega : n < 7)) (by decide)
theorem i64_or_nat (a b : Nat) (ha : a < 9223372036854775808) (hb : b < 9223372036854775808) : bits .or .i64 (a : Int) (b : Int) = ((a ||| b : Nat) : Int) := by
  have hx : a ||| b < 2 ^ 63 := Nat.or_lt_two_pow (by omega) (by omega)
  have h1 : (BitVec.ofInt 64 (a : Int)).toNat = a := by
    rw [BitVec.ofInt_natCast, BitVec.toNat_ofNat]; exact Nat.mod_eq_of_lt (by omega)
  have h2 : (BitVec.ofInt 64 (b : Int)).toNat = b := by
    rw [BitVec.ofInt_natCast, BitVec.toNat_ofNat]; exact Nat.mod_eq_of_lt (by omega)
  show IntKind.i64.wrap ((BitVec.ofInt 64 (a : Int) ||| BitVec.ofInt 64 (b : Int)).toNat : Int) = _
  rw [BitVec.toNat_or, h1, h2, IntKind.wrap_i64]
  omega
theorem i64_and_nat (a b : Nat) (ha : a < 9223372036854775808) (hb : b < 9223372036854775808) : bits .and .i64 (a : Int) (b : Int) = ((a &&& b : Nat) : Int) := by
  have hx : a &&& b < 2 ^ 63 := Nat.and_lt_two_pow _ (by omega)
  have h1 : (BitVec.ofInt 64 (a : Int)).toNat = a := by
    rw [BitVec.ofInt_natCast, BitVec.toNat_ofNat]; exact Nat.mod_eq_of_lt (by omega)
  have h2 : (BitVec.ofInt 64 (b : Int)).toNat = b := by
    rw [BitVec.ofInt_natCast, BitVec.toNat_ofNat]; exact Nat.mod_eq_of_lt (by omega)
  show IntKind.i64.wrap ((BitVec.ofInt 64 (a : Int) &&& BitVec.ofInt 64 (b : Int)).toNat : Int) = _
  rw [BitVec.toNat_and, h1, h2, IntKind.wrap_i64]
  omega
theorem wrap64_pow {n : Nat} (h : n ≤ 6) : wrap64 ((2 : Int) ^ n) = ((2 ^ n : Nat) : Int) := by
  have h1 := pow_small h
  have e : (2 : Int) ^ n = ((2 ^ n : Nat) : Int) := by simp
  rw [e]
  generalize (2 : Nat) ^ n = m at *
  unfold wrap64
  omega
theorem bits_step {g n : Nat} (hg : g < 128) (h : n ≤ 6) : bits BinOp.or IntKind.i64 (g : Int) (wrap64 ((2 : Int) ^ n)) = ((g ||| 2 ^ n : Nat) : Int) := by
  have h1 := pow_small h
  rw [wrap64_pow h, i64_or_nat _ _ (by omega) (by omega)]
theorem u64wrap_pow {n : Nat} (h : n ≤ 6) : IntKind.u64.wrap ((2 : Int) ^ n) = ((2 ^ n : Nat) : Int) := by
  have h1 := pow_small h
  have e : (2 : Int) ^ n = ((2 ^ n : Nat) : Int) := by simp
  rw [e]
  generalize (2 : Nat) ^ n = m at *
  rw [IntKind.wrap_u64]
  omega
/-- The number before place k: -1 before the first. -/
def lastTo (l : List Int) : Nat → Int
  | 0 => -1
  | k + 1 => nth l k
theorem lastTo_ge {n : Int} {l : List Int} {k : Nat} (h : ∀ j, j < k → GrpAt 0 (n - 1) l j) : -1 ≤ lastTo l k := by
  cases k with
  | zero => exact Int.le_refl _
  | succ k => have := (h k (by omega)).1; show -1 ≤ nth l k; omega
theorem grpAt_iff {n : Int} {l : List Int} {k : Nat} (h : ∀ j, j < k → GrpAt 0 (n - 1) l j) : GrpAt 0 (n - 1) l k ↔ lastTo l k < nth l k ∧ nth l k < n := by
  have h0 := lastTo_ge h
  cases k with
  | zero =>
    have e : lastTo l 0 = -1 := rfl
    rw [e] at *
    unfold GrpAt
    constructor
    · intro ⟨a, b, _⟩; omega
    · intro ⟨a, b⟩; exact ⟨by omega, by omega, fun h => absurd h (by omega)⟩
  | succ k =>
    have e : lastTo l (k + 1) = nth l k := rfl
    rw [e] at *
    unfold GrpAt
    constructor
    · intro ⟨a, b, c⟩; exact ⟨c (by omega), by omega⟩
    · intro ⟨a, b⟩; exact ⟨by have := (h k (by omega)).1; omega, by omega, fun _ => a⟩
/-- The bits of what is checked so far. -/
theorem bitsTo_lt' {n : Int} {l : List Int} (hn : n ≤ 7) : ∀ k, (∀ j, j < k → GrpAt 0 (n - 1) l j) → bitsTo l k < 128
  | 0, _ => by simp [bitsTo]
  | k + 1, h => by
    have h1 := bitsTo_lt' hn k (fun j hj => h j (by omega))
    obtain ⟨h2, h3, _⟩ := h k (by omega)
    exact Nat.or_lt_two_pow (n := 7) h1 (pow_small (by omega))
/-- What 'setOf' gives. -/
noncomputable def setVal (n : Int) (l : List Int) : Value := if tell (IsGrp n l) = true then .tuple #[.int .u64 ((bitsOf l : Nat) : Int), .bool true] else .tuple #[.int .u64 0, .bool false]
theorem has_fact : ∀ x : Nat, x < 128 → ∀ n : Nat, n < 7 → (bits BinOp.and IntKind.u64 ((x : Int) / 2 ^ n) 1 == 1) = x.testBit n := by decide +kernel
def HasIn (zs : List Int) (n : Int) : Prop := ∃ i, i < zs.length ∧ nth zs i = n
theorem bitsTo_bit (zs : List Int) (j : Nat) : ∀ k, (bitsTo zs k).testBit j = true ↔ ∃ i, i < k ∧ (nth zs i).toNat = j
  | 0 => by simp [bitsTo]
  | k + 1 => by
    show (bitsTo zs k ||| 2 ^ (nth zs k).toNat).testBit j = true ↔ _
    rw [Nat.testBit_or, Bool.or_eq_true, bitsTo_bit zs j k, Nat.testBit_two_pow, decide_eq_true_eq]
    constructor
    · rintro (⟨i, h1, h2⟩ | h1)
      · exact ⟨i, by omega, h2⟩
      · exact ⟨k, by omega, h1⟩
    · rintro ⟨i, h1, h2⟩
      by_cases e : i = k
      · subst e; exact .inr h2
      · exact .inl ⟨i, by omega, h2⟩
theorem has_bits {n : Int} {gs : List Int} (hg : IsGrp n gs) {x : Int} (h0 : 0 ≤ x) : (bitsOf gs).testBit x.toNat = tell (HasIn gs x) := by
  have h := bitsTo_bit gs x.toNat gs.length
  by_cases hh : HasIn gs x
  · rw [tell_true hh]
    obtain ⟨i, h1, h2⟩ := hh
    exact h.2 ⟨i, h1, by rw [h2]⟩
  · rw [tell_false hh]
    cases hb : (bitsOf gs).testBit x.toNat with
    | false => rfl
    | true =>
      obtain ⟨i, h1, h2⟩ := h.1 hb
      have := (hg i h1).1
      exact absurd ⟨i, h1, by omega⟩ hh
/-- The numbers below k that are chosen. -/
def pickTo (P : Nat → Bool) (k : Nat) : List Int := ((List.range k).filter P).map fun (i : Nat) => (i : Int)
theorem pickTo_hit {P : Nat → Bool} {k : Nat} (h : P k = true) : pickTo P (k + 1) = pickTo P k ++ [(k : Int)] := by
  simp [pickTo, List.range_succ, List.filter_append, h]
theorem pickTo_miss {P : Nat → Bool} {k : Nat} (h : P k = false) : pickTo P (k + 1) = pickTo P k := by
  simp [pickTo, List.range_succ, List.filter_append, h]
theorem pickTo_len (P : Nat → Bool) (k : Nat) : (pickTo P k).length ≤ k := by
  simp only [pickTo, List.length_map]
  exact Nat.le_trans (List.length_filter_le _ _) (by simp)
end Go.Proofs.Ytpifgapogbbcnaa

/- The program's isOrder and renamed; orders as lists. -/
import Derived.Test.YtnebkhelobpkpaaDoorRen
import Derived.Test.YtnebkhelobpkpaaDoorTof
import Derived.Test.YtnebkhelobpkpaaDoorFw
namespace Go.Proofs.YtnebkhelobpkpaaDoor
open Go.RowKit Go.Deep Go.Shelf
set_option linter.unusedVariables false

def oOf (zs : List Int) (i : Nat) : Nat := (nth zs i).toNat
/-- The first k are in range, and each is there once. -/
def OrdTo (h : Int) (zs : List Int) (k : Nat) : Prop := (∀ i, i < k → 0 ≤ nth zs i ∧ nth zs i < h) ∧ ∀ i j, i < j → j < k → nth zs i ≠ nth zs j
def OrdOk (h : Int) (zs : List Int) : Prop := (zs.length : Int) = h ∧ OrdTo h zs zs.length
theorem OrdTo.less {h : Int} {zs : List Int} {k n : Nat} (hk : OrdTo h zs n) (hn : k ≤ n) : OrdTo h zs k := ⟨fun i hi => hk.1 i (by omega), fun i j h1 h2 => hk.2 i j h1 (by omega)⟩
theorem OrdOk.ord {m : Nat} {zs : List Int} (h : OrdOk (m : Int) zs) : Ord (oOf zs) m := by
  have hl : zs.length = m := by have := h.1; omega
  refine ⟨fun i hi => by have := h.2.1 i (by omega); unfold oOf; omega, fun i j hi hj e => ?_⟩
  have a := h.2.1 i (by omega)
  have b := h.2.1 j (by omega)
  have e' : nth zs i = nth zs j := by unfold oOf at e; omega
  rcases Nat.lt_trichotomy i j with h1 | h1 | h1
  · exact absurd e' (h.2.2 i j h1 (by omega))
  · exact h1
  · exact absurd e'.symm (h.2.2 j i h1 (by omega))
theorem bitsTo_bit (zs : List Int) (j : Nat) : ∀ k, (bitsTo zs k).testBit j = true ↔ ∃ i, i < k ∧ (nth zs i).toNat = j
  | 0 => by simp [bitsTo]
  | k + 1 => by
    show (bitsTo zs k ||| 2 ^ (nth zs k).toNat).testBit j = true ↔ _
    rw [Nat.testBit_or, Bool.or_eq_true, bitsTo_bit zs j k, Nat.testBit_two_pow, decide_eq_true_eq]
    constructor
    · rintro (⟨i, h1, h2⟩ | h1)
      · exact ⟨i, by omega, h2⟩
      · exact ⟨k, by omega, h1⟩
    · rintro ⟨i, h1, h2⟩
      by_cases e : i = k
      · subst e; exact .inr h2
      · exact .inl ⟨i, by omega, h2⟩
theorem bitsTo_128 {h : Int} {zs : List Int} {k : Nat} (h7 : h ≤ 7) (hk : OrdTo h zs k) : bitsTo zs k < 128 := by
  show bitsTo zs k < 2 ^ 7
  refine Nat.lt_pow_two_of_testBit _ fun j hj => ?_
  cases hb : (bitsTo zs k).testBit j with
  | false => rfl
  | true =>
    obtain ⟨i, h1, rfl⟩ := (bitsTo_bit zs j k).1 hb
    have := hk.1 i h1
    omega
theorem ord_step {h : Int} {zs : List Int} {k : Nat} (hk : OrdTo h zs k) (h0 : 0 ≤ nth zs k) (h1 : nth zs k < h) (hb : (bitsTo zs k).testBit (nth zs k).toNat = false) : OrdTo h zs (k + 1) := by
  refine ⟨fun i hi => ?_, fun i j hi hj => ?_⟩
  · by_cases e : i = k
    · subst e; exact ⟨h0, h1⟩
    · exact hk.1 i (by omega)
  · by_cases e : j = k
    · subst e
      intro e2
      rw [(bitsTo_bit zs _ j).2 ⟨i, hi, by rw [e2]⟩] at hb
      cases hb
    · exact hk.2 i j hi (by omega)
theorem ord_twice {h : Int} {zs : List Int} {k : Nat} (hk : OrdTo h zs k) (h0 : 0 ≤ nth zs k) (hlt : k < zs.length) (hb : (bitsTo zs k).testBit (nth zs k).toNat = true) : ¬ OrdOk h zs := fun q => by
  obtain ⟨i, h1, h2⟩ := (bitsTo_bit zs _ k).1 hb
  have := hk.1 i h1
  exact q.2.2 i k h1 hlt (by omega)

theorem psi_128 {zs : List Int} (hz : ∀ i, i < zs.length → 0 ≤ nth zs i ∧ nth zs i ≤ 6) (x : Nat) {k : Nat} (hk : k ≤ zs.length) : psiN (oOf zs) x k < 128 := by
  show _ < 2 ^ 7
  refine Nat.lt_pow_two_of_testBit _ fun j hj => ?_
  cases hb : (psiN (oOf zs) x k).testBit j with
  | false => rfl
  | true =>
    obtain ⟨i, h1, _, rfl⟩ := (psi_bit _ x j k).1 hb
    have := hz i (by omega)
    unfold oOf at hj
    omega

end Go.Proofs.YtnebkhelobpkpaaDoor

/- The contracts of SizesOf, the program's and the model's. -/
import Derived.Test.YtnebkhelobpkpaaVs
namespace Go.Proofs.Ytnebkhelobpkpaa
open Go.RowKit Go.Deep
set_option linter.unusedVariables false

/-- How often a number is among the first ones. -/
def tally (yo : List Int) : Nat → Nat → Int
  | 0, _ => 0
  | k + 1, r => tally yo k r + if nth yo k = (r : Int) then 1 else 0
theorem tally_lo (yo : List Int) (r : Nat) : ∀ k, 0 ≤ tally yo k r
  | 0 => Int.le_refl _
  | k + 1 => by have := tally_lo yo r k; simp only [tally]; split <;> omega
theorem tally_hi (yo : List Int) (r : Nat) : ∀ k : Nat, tally yo k r ≤ k
  | 0 => Int.le_refl _
  | k + 1 => by have := tally_hi yo r k; simp only [tally]; split <;> omega
def sizes (n : Nat) (yo : List Int) : List Int := (List.range n).map fun r => tally yo yo.length r
theorem sizes_len (n : Nat) (yo : List Int) : (sizes n yo).length = n := by simp [sizes]
theorem sizes_nth {n : Nat} (yo : List Int) {r : Nat} (h : r < n) : nth (sizes n yo) r = tally yo yo.length r := by
  rw [nth_lt (by rw [sizes_len]; exact h)]; simp [sizes]
noncomputable def sizesOf (h f l : Int) (yo : List Int) (z : List (List Int)) : List Int := if tell (SchOk h yo f l z) = true then sizes h.toNat yo else []
noncomputable def schCode (h f l : Int) (yo : List Int) (z : List (List Int)) : Int := if tell (SchOk h yo f l z) = true then 0 else 1
theorem sizesOf_len (h f l : Int) (yo : List Int) (z : List (List Int)) : (sizesOf h f l yo z).length ≤ 1048576 := by
  unfold sizesOf
  split
  · next q =>
    rw [sizes_len]
    have := (of_tell q).1
    omega
  · simp

end Go.Proofs.Ytnebkhelobpkpaa

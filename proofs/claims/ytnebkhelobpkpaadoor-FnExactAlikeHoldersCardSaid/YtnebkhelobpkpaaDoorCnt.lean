/- The model's CountBySize. -/
import Derived.Test.YtnebkhelobpkpaaDoorTbl
import Derived.Test.YtnebkhelobpkpaaDoorTof
import Derived.Test.YtnebkhelobpkpaaDoorNeed
import Derived.Test.YtnebkhelobpkpaaDoorMark2
namespace Go.Proofs.YtnebkhelobpkpaaDoor
open Go.RowKit Go.Deep Go.Shelf
set_option linter.unusedVariables false

/-- A group of this size that opens. -/
def hits (p : Nat → Bool) (i x : Nat) : Bool := p x && ((listOf x).length == i)
def cntR (p : Nat → Bool) (k i : Nat) : Nat := ((List.range k).filter (hits p i)).length
theorem cntR_succ (p : Nat → Bool) (k i : Nat) : cntR p (k + 1) i = cntR p k i + (if hits p i k = true then 1 else 0) := by
  unfold cntR
  rw [List.range_succ, List.filter_append, List.length_append]
  by_cases h : hits p i k = true <;> simp [h]
theorem cntR_le (p : Nat → Bool) (k i : Nat) : cntR p k i ≤ k := by
  unfold cntR
  exact Nat.le_trans (List.length_filter_le _ _) (by simp)
theorem cntR_congr {p q : Nat → Bool} {k : Nat} (h : ∀ y, y < k → p y = q y) (i : Nat) : cntR p k i = cntR q k i := by
  unfold cntR
  congr 1
  refine List.filter_congr fun y hy => ?_
  rw [hits, hits, h y (List.mem_range.1 hy)]
def cntL (p : Nat → Bool) (pre : List G7) (i : Nat) : Nat := (pre.filter fun y => hits p i y.val).length
theorem cntL_snoc (p : Nat → Bool) (pre : List G7) (x : G7) (i : Nat) : cntL p (pre ++ [x]) i = cntL p pre i + (if hits p i x.val = true then 1 else 0) := by
  unfold cntL
  rw [List.filter_append, List.length_append]
  by_cases h : hits p i x.val = true <;> simp [h]
theorem cntL_le (p : Nat → Bool) (pre : List G7) (i : Nat) : cntL p pre i ≤ pre.length := List.length_filter_le _ _
theorem cnt_same {h : Nat} (h7 : h ≤ 7) (p : Nat → Bool) (i : Nat) : cntL p (lexAll h) i = cntR p (2 ^ h) i := by
  have h1 := List.isPerm_iff.1 (lex_perm_fact ⟨h, by omega⟩)
  have h2 := (h1.filter (hits p i)).length_eq
  rw [List.filter_map, List.length_map] at h2
  exact h2
def cntList (p : Nat → Bool) (m : Nat) : List Int := (List.range (m + 1)).map fun i => ((cntR p (2 ^ m) i : Nat) : Int)
theorem cntList_len (p : Nat → Bool) (m : Nat) : (cntList p m).length = m + 1 := by simp [cntList]
theorem cntList_nth (p : Nat → Bool) {m i : Nat} (h : i < m + 1) : nth (cntList p m) i = ((cntR p (2 ^ m) i : Nat) : Int) := by
  rw [nth_lt (by rw [cntList_len]; exact h)]; simp [cntList]
theorem size_fact : ∀ m : Nat, m ≤ 7 → ∀ x : Nat, x < 128 → x < 2 ^ m → (listOf x).length ≤ m := by decide +kernel
noncomputable def cntOf (h : Int) (zss : List (List Int)) : List Int := if tell (FamOk h zss) = true then cntList (tblAt zss zss.length) h.toNat else []
theorem cntOf_len (h : Int) (zss : List (List Int)) : (cntOf h zss).length ≤ 1048576 := by
  unfold cntOf
  split
  · rename_i k
    have := (of_tell k).1
    rw [cntList_len]; omega
  · simp

end Go.Proofs.YtnebkhelobpkpaaDoor

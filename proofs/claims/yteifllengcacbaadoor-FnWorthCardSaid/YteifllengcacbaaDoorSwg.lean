/- The model's SwingsOf. -/
import Derived.Test.YteifllengcacbaaDoorGb
import Derived.Test.YteifllengcacbaaDoorCntI
namespace Go.Proofs.YteifllengcacbaaDoor
open Go.RowKit Go.Deep Go.Shelf
set_option linter.unusedVariables false

/-- A group that does not open, but does with holder i. -/
def swing (p : Nat → Bool) (i x : Nat) : Bool := !p x && p (addOne x i)
theorem addOne_set {x i : Nat} (h : x.testBit i = true) : addOne x i = x := by
  unfold addOne
  refine Nat.eq_of_testBit_eq fun j => ?_
  rw [Nat.testBit_or, Nat.testBit_two_pow]
  by_cases e : i = j
  · subst e; rw [h]; rfl
  · simp [e]
theorem swing_set {p : Nat → Bool} {i x : Nat} (h : x.testBit i = true) : swing p i x = false := by
  unfold swing; rw [addOne_set h]; cases p x <;> rfl
def swR (p : Nat → Bool) (k i : Nat) : Nat := ((List.range k).filter (swing p i)).length
theorem swR_succ (p : Nat → Bool) (k i : Nat) : swR p (k + 1) i = swR p k i + (if swing p i k = true then 1 else 0) := by
  unfold swR
  rw [List.range_succ, List.filter_append, List.length_append]
  by_cases h : swing p i k = true <;> simp [h]
theorem swR_le (p : Nat → Bool) (k i : Nat) : swR p k i ≤ k := by
  unfold swR
  exact Nat.le_trans (List.length_filter_le _ _) (by simp)
theorem swR_congr {m : Nat} {p q : Nat → Bool} (h : ∀ y, y < 2 ^ m → p y = q y) {i : Nat} (hi : i < m) : swR p (2 ^ m) i = swR q (2 ^ m) i := by
  unfold swR
  congr 1
  refine List.filter_congr fun y hy => ?_
  have hy := List.mem_range.1 hy
  rw [swing, swing, h y hy, h _ (addOne_lt hy hi)]
def swL (p : Nat → Bool) (pre : List G7) (i : Nat) : Nat := (pre.filter fun y => swing p i y.val).length
theorem swL_snoc (p : Nat → Bool) (pre : List G7) (x : G7) (i : Nat) : swL p (pre ++ [x]) i = swL p pre i + (if swing p i x.val = true then 1 else 0) := by
  unfold swL
  rw [List.filter_append, List.length_append]
  by_cases h : swing p i x.val = true <;> simp [h]
theorem swL_le (p : Nat → Bool) (pre : List G7) (i : Nat) : swL p pre i ≤ pre.length := List.length_filter_le _ _
theorem sw_same {h : Nat} (h7 : h ≤ 7) (p : Nat → Bool) (i : Nat) : swL p (lexAll h) i = swR p (2 ^ h) i := by
  have h1 := List.isPerm_iff.1 (lex_perm_fact ⟨h, by omega⟩)
  have h2 := (h1.filter (swing p i)).length_eq
  rw [List.filter_map, List.length_map] at h2
  exact h2
def swList (p : Nat → Bool) (m : Nat) : List Int := (List.range m).map fun i => ((swR p (2 ^ m) i : Nat) : Int)
theorem swList_len (p : Nat → Bool) (m : Nat) : (swList p m).length = m := by simp [swList]
theorem swList_nth (p : Nat → Bool) {m i : Nat} (h : i < m) : nth (swList p m) i = ((swR p (2 ^ m) i : Nat) : Int) := by
  rw [nth_lt (by rw [swList_len]; exact h)]; simp [swList]
noncomputable def swOf (h : Int) (zss : List (List Int)) : List Int := if tell (FamOk h zss) = true then swList (tblAt zss zss.length) h.toNat else []
theorem swOf_len (h : Int) (zss : List (List Int)) : (swOf h zss).length ≤ 1048576 := by
  unfold swOf
  split
  · rename_i k
    have := (of_tell k).1
    rw [swList_len]; omega
  · simp
/-- The row in the middle of a round. -/
def swMid (A B : Nat → Nat) (j i : Nat) : Nat := if i < j then B i else A i
theorem swMid_zero (A B : Nat → Nat) (i : Nat) : swMid A B 0 i = A i := by simp [swMid]
theorem swMid_all (A B : Nat → Nat) {j i : Nat} (h : i < j) : swMid A B j i = B i := by simp [swMid, h]
theorem swMid_at (A B : Nat → Nat) (j : Nat) : swMid A B j j = A j := by simp [swMid]
theorem swMid_keep {A B : Nat → Nat} {j : Nat} (h : B j = A j) (i : Nat) : swMid A B j i = swMid A B (j + 1) i := by
  unfold swMid
  by_cases e : i = j
  · subst e; simp [h]
  · by_cases e2 : i < j
    · simp [e2, show i < j + 1 by omega]
    · simp [e2, show ¬ i < j + 1 by omega]
theorem swMid_set {A B : Nat → Nat} {j : Nat} (h : B j = A j + 1) (i : Nat) : (if i = j then A j + 1 else swMid A B j i) = swMid A B (j + 1) i := by
  unfold swMid
  by_cases e : i = j
  · subst e; simp [h]
  · by_cases e2 : i < j
    · simp [e, e2, show i < j + 1 by omega]
    · simp [e, e2, show ¬ i < j + 1 by omega]

end Go.Proofs.YteifllengcacbaaDoor

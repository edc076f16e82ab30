/- Solutions: a matrix with more columns, and the list that its echelon gives. -/
import Derived.Test.YtnebkhelobpkpaaEm0
namespace Go.Proofs.Ytnebkhelobpkpaa
open Go.RowKit Go.Deep
set_option linter.unusedVariables false

theorem nth_app1 {xs ys : List Int} {j : Nat} (h : j < xs.length) : nth (xs ++ ys) j = nth xs j := by simp [nth, List.getD, List.getElem?_append_left h]
theorem nth_app2 {xs ys : List Int} {j : Nat} (h : xs.length ≤ j) : nth (xs ++ ys) j = nth ys (j - xs.length) := by simp [nth, List.getD, List.getElem?_append_right h]
/-- The first k of the columns, at a row. -/
def colsAt (cs : List (List Int)) (r k : Nat) : List Int := (List.range k).map fun q => nth (nthL cs q) r
theorem colsAt_len (cs : List (List Int)) (r k : Nat) : (colsAt cs r k).length = k := by simp [colsAt]
theorem colsAt_snoc (cs : List (List Int)) (r k : Nat) : colsAt cs r (k + 1) = colsAt cs r k ++ [nth (nthL cs k) r] := by simp [colsAt, List.range_succ]
theorem colsAt_at (cs : List (List Int)) (r k : Nat) {q : Nat} (h : q < k) : nth (colsAt cs r k) q = nth (nthL cs q) r := by
  rw [nth_lt (by rw [colsAt_len]; exact h)]; simp [colsAt]
/-- A row with the first k of the columns. -/
def besR (z cs : List (List Int)) (r k : Nat) : List Int := nthL z r ++ colsAt cs r k
theorem besR_len (z cs : List (List Int)) (r k : Nat) : (besR z cs r k).length = (nthL z r).length + k := by simp [besR, colsAt]
theorem besR_zero (z cs : List (List Int)) (r : Nat) : besR z cs r 0 = nthL z r := by simp [besR, colsAt]
theorem besR_snoc (z cs : List (List Int)) (r k : Nat) : besR z cs r (k + 1) = besR z cs r k ++ [nth (nthL cs k) r] := by rw [besR, besR, colsAt_snoc, List.append_assoc]
/-- The first m rows with all columns. -/
def besA (z cs : List (List Int)) (m : Nat) : List (List Int) := (List.range m).map fun r => besR z cs r cs.length
theorem besA_len (z cs : List (List Int)) (m : Nat) : (besA z cs m).length = m := by simp [besA]
theorem besA_snoc (z cs : List (List Int)) (m : Nat) : besA z cs (m + 1) = besA z cs m ++ [besR z cs m cs.length] := by simp [besA, List.range_succ]
theorem besA_at (z cs : List (List Int)) {m r : Nat} (h : r < m) : nthL (besA z cs m) r = besR z cs r cs.length := by
  rw [nthL_lt (by rw [besA_len]; exact h)]; simp [besA]
theorem besA_good {p : Int} {n : Nat} {z cs : List (List Int)} (h : GoodM p n z) (hn : n + cs.length ≤ 1000) (hc : ∀ q, q < cs.length → (nthL cs q).length = z.length ∧ Elems p (nthL cs q)) : GoodM p (n + cs.length) (besA z cs z.length) :=
  ⟨h.prm, hn, by rw [besA_len]; exact h.hm, fun r hr => by
    rw [besA_len] at hr
    rw [besA_at _ _ hr]
    have h1 := h.rows r hr
    refine ⟨by rw [besR_len, h1.1], fun i hi => ?_⟩
    rw [besR_len, h1.1] at hi
    by_cases e : i < n
    · rw [besR, nth_app1 (by rw [h1.1]; exact e)]; exact h1.2 i (by rw [h1.1]; exact e)
    · have h2 : i - n < cs.length := by omega
      rw [besR, nth_app2 (by rw [h1.1]; omega), h1.1, colsAt_at _ _ _ h2]
      exact (hc _ h2).2 r (by rw [(hc _ h2).1]; exact hr)⟩

theorem echF_lt {p : Int} {n : Nat} {z : List (List Int)} : ∀ x, x ∈ echF p n z → x < n := by
  by_cases hx : ∃ x : (Nat → Nat → Int) × List Nat, Steps p n z.length (fn z) n x.1 x.2
  · obtain ⟨x, hx⟩ := hx
    exact (red_steps hx).lenk.2
  · unfold echF redOf
    rw [dif_neg hx]
    intro x h
    simp at h
/-- A column of a list of columns. -/
def nthN (F : List Nat) (k : Nat) : Nat := F.getD k 0
theorem nthN_lt {F : List Nat} {k : Nat} (h : k < F.length) : nthN F k = F[k] := by simp [nthN, List.getD, h]
theorem nthN_mem {F : List Nat} {k : Nat} (h : k < F.length) : nthN F k ∈ F := by rw [nthN_lt h]; exact List.getElem_mem h
theorem cols_at {F : List Nat} {k : Nat} (h : k < F.length) : (cols F)[k]? = some (.int .i64 ((nthN F k : Nat) : Int)) := by
  rw [nthN_lt h]; simp [cols, h]
/-- A list whose elements at the first columns are given. -/
def solAt (f0 : Nat → Int) (F : List Nat) (g : Nat → Int) : Nat → Nat → Int
  | 0, j => f0 j
  | k + 1, j => if j = nthN F k then g k else solAt f0 F g k j
theorem sol_zero (f0 : Nat → Int) (F : List Nat) (g : Nat → Int) (j : Nat) : solAt f0 F g 0 j = f0 j := rfl
theorem sol_next (f0 : Nat → Int) (F : List Nat) (g : Nat → Int) (k j : Nat) : solAt f0 F g (k + 1) j = if j = nthN F k then g k else solAt f0 F g k j := rfl
theorem sol_elem {p : Int} {f0 : Nat → Int} {F : List Nat} {g : Nat → Int} (j : Nat) (h0 : Elem p (f0 j)) : ∀ k, (∀ i, i < k → Elem p (g i)) → Elem p (solAt f0 F g k j)
  | 0, _ => h0
  | k + 1, h => by
    rw [sol_next]
    split
    · exact h k (Nat.lt_succ_self k)
    · exact sol_elem j h0 k fun i hi => h i (by omega)
theorem sol_congr {f0 : Nat → Int} {F : List Nat} {g g' : Nat → Int} (j : Nat) : ∀ k, (∀ i, i < k → g i = g' i) → solAt f0 F g k j = solAt f0 F g' k j
  | 0, _ => rfl
  | k + 1, h => by
    rw [sol_next, sol_next, h k (Nat.lt_succ_self k), sol_congr j k fun i hi => h i (by omega)]

section
variable (p : Int) (n : Nat) (z : List (List Int)) (v : List Int)
/-- The first columns of a matrix with values beside it. -/
noncomputable def solF : List Nat := echF p (n + 1) (besA z [v] z.length)
/-- The values of its echelon. -/
noncomputable def solG : Nat → Int := fun i => nth (nthL (echZ p (n + 1) (besA z [v] z.length)) i) n
/-- That there is a solution. -/
def SolOk : Prop := ∀ k, k < (solF p n z v).length → nthN (solF p n z v) k ≠ n
/-- The solution. -/
noncomputable def solZ : List Int := rowOf n (solAt (fun _ => 0) (solF p n z v) (solG p n z v) (solF p n z v).length)
/-- The solution if there is one. -/
noncomputable def solL : List Int := if tell (SolOk p n z v) = true then solZ p n z v else []
noncomputable def solCode : Int := if tell (SolOk p n z v) = true then 0 else 6
end
section
variable {p : Int} {n : Nat} {z : List (List Int)} {v : List Int}
theorem solZ_len : (solZ p n z v).length = n := rowOf_len _ _
theorem sol_yes (h : SolOk p n z v) : solL p n z v = solZ p n z v ∧ solCode p n z v = 0 := by unfold solL solCode; rw [tell_true h]; exact ⟨rfl, rfl⟩
theorem sol_no (h : ¬ SolOk p n z v) : solL p n z v = [] ∧ solCode p n z v = 6 := by unfold solL solCode; rw [tell_false h]; exact ⟨rfl, rfl⟩
theorem solL_len (hn : n ≤ 1048576) : (solL p n z v).length ≤ 1048576 := by
  unfold solL
  split
  · rw [solZ_len]; exact hn
  · simp
theorem bes1_good (h : GoodM p n z) (hn : n + 1 ≤ 1000) (hl : v.length = z.length) (hv : Elems p v) : GoodM p (n + 1) (besA z [v] z.length) :=
  besA_good (cs := [v]) h hn fun q hq => by
    have : q = 0 := by simpa using hq
    subst this
    exact ⟨hl, hv⟩
end
end Go.Proofs.Ytnebkhelobpkpaa

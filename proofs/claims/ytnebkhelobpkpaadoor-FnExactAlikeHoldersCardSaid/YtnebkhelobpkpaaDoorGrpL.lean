/- A group is the list of its bits: plain mathematics. -/
import Derived.Test.YtnebkhelobpkpaaDoorList
namespace Go.Proofs.YtnebkhelobpkpaaDoor
set_option linter.unusedSimpArgs false

def sel (zs : List Int) (m d : Nat) : List Int := ((List.range' m d).filter fun (n : Nat) => zs.contains (n : Int)).map fun (n : Nat) => (n : Int)

theorem sel_eq : ∀ (d m : Nat) (zs : List Int), zs.Pairwise (· < ·) → (∀ z ∈ zs, (m : Int) ≤ z ∧ z < (m : Int) + d) → sel zs m d = zs := by
  intro d
  induction d with
  | zero =>
    intro m zs _ hr
    cases zs with
    | nil => rfl
    | cons z t => have := hr z (by simp); omega
  | succ d ih =>
    intro m zs hp hr
    have e : List.range' m (d + 1) = m :: List.range' (m + 1) d := by simp [List.range'_succ]
    unfold sel
    rw [e, List.filter_cons]
    cases zs with
    | nil => simp
    | cons z t =>
      obtain ⟨hz, ht⟩ := List.pairwise_cons.1 hp
      have hr0 := hr z (by simp)
      by_cases hzm : z = m
      · subst hzm
        have h1 : ((m : Int) :: t).contains (m : Int) = true := by simp
        rw [if_pos h1, List.map_cons]
        have h2 := ih (m + 1) t ht (fun y hy => by have := hz y hy; have := hr y (by simp [hy]); omega)
        have h3 : (List.range' (m + 1) d).filter (fun (n : Nat) => ((m : Int) :: t).contains (n : Int)) = (List.range' (m + 1) d).filter (fun (n : Nat) => t.contains (n : Int)) := by
          apply List.filter_congr
          intro n hn
          have : m + 1 ≤ n := by
            have := List.mem_range'.1 hn
            omega
          rw [List.contains_cons]
          have : ((n : Int) == (m : Int)) = false := by simp; omega
          rw [this, Bool.false_or]
        rw [h3]
        show (m : Int) :: sel t (m + 1) d = _
        rw [h2]
      · have h1 : (z :: t).contains (m : Int) = false := by
          rw [List.contains_eq_mem]
          simp only [decide_eq_false_iff_not, List.mem_cons, not_or]
          exact ⟨fun e => hzm e.symm, fun hm => by have := hz _ hm; omega⟩
        rw [if_neg (by rw [h1]; simp)]
        exact ih (m + 1) (z :: t) hp (fun y hy => by
          have h4 := hr y hy
          rcases List.mem_cons.1 hy with rfl | hy'
          · omega
          · have := hz y hy'; omega)

theorem grp_lt {n : Int} {l : List Int} (h : IsGrp n l) : ∀ d i, i + d + 1 < l.length → nth l i < nth l (i + d + 1) := by
  intro d
  induction d with
  | zero =>
    intro i hi
    have := (h (i + 1) (by omega)).2.2 (by omega)
    simpa using this
  | succ d ih =>
    intro i hi
    have h1 := ih i (by omega)
    have h2 := (h (i + (d + 1) + 1) hi).2.2 (by omega)
    have e : i + (d + 1) + 1 - 1 = i + d + 1 := by omega
    rw [e] at h2
    omega

theorem grp_pairwise {n : Int} {l : List Int} (h : IsGrp n l) : l.Pairwise (· < ·) := by
  rw [List.pairwise_iff_getElem]
  intro i j hi hj hij
  have := grp_lt h (j - i - 1) i (by omega)
  rw [show i + (j - i - 1) + 1 = j by omega, nth_lt hi, nth_lt hj] at this
  exact this

theorem grp_mem {n : Int} {l : List Int} (h : IsGrp n l) : ∀ z ∈ l, 0 ≤ z ∧ z < n := by
  intro z hz
  obtain ⟨i, hi, rfl⟩ := List.mem_iff_getElem.1 hz
  have := h i hi
  unfold GrpAt at this
  rw [nth_lt hi] at this
  omega

theorem bitsTo_testBit {n : Int} {l : List Int} (h : IsGrp n l) : ∀ k, k ≤ l.length → ∀ m : Nat, (bitsTo l k).testBit m = (l.take k).contains (m : Int)
  | 0, _, m => by simp [bitsTo]
  | k + 1, hk, m => by
    have hz := (h k (by omega)).1
    rw [List.take_succ_eq_append_getElem (by omega), ← nth_lt (by omega : k < l.length)]
    show (bitsTo l k ||| 2 ^ (nth l k).toNat).testBit m = _
    rw [Nat.testBit_or, bitsTo_testBit h k (by omega) m, Nat.testBit_two_pow]
    rw [List.contains_eq_mem, List.contains_eq_mem]
    by_cases h1 : (m : Int) ∈ l.take k
    · simp [h1]
    · by_cases h2 : (nth l k).toNat = m
      · have : (m : Int) = nth l k := by omega
        simp [h1, h2, this]
      · have : ¬ (m : Int) = nth l k := by omega
        simp [h1, h2, this]

theorem listOf_bitsOf {n : Int} {l : List Int} (h : IsGrp n l) (hn : n ≤ 7) : listOf (bitsOf l) = l := by
  have h1 := sel_eq 7 0 l (grp_pairwise h) (fun z hz => by have := grp_mem h z hz; omega)
  have h2 : listOf (bitsOf l) = sel l 0 7 := by
    unfold listOf listTo sel
    rw [List.range_eq_range']
    congr 1
    apply List.filter_congr
    intro m _
    unfold bitsOf
    rw [bitsTo_testBit h l.length (Nat.le_refl _) m, List.take_length]
  rw [h2, h1]
end Go.Proofs.YtnebkhelobpkpaaDoor

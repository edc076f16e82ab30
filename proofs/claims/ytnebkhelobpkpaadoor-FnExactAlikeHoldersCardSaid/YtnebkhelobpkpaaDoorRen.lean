/- Groups with renamed holders: plain mathematics. -/
import Derived.Test.YtnebkhelobpkpaaDoorFrom
import Derived.Test.YtnebkhelobpkpaaDoorTbl
import Derived.Test.YtnebkhelobpkpaaDoorGrpL
namespace Go.Proofs.YtnebkhelobpkpaaDoor
open Go.RowKit Go.Deep Go.Shelf
set_option linter.unusedVariables false

/-- The group with o i in place of each of the first k holders i. -/
def psiN (o : Nat → Nat) (g : Nat) : Nat → Nat
  | 0 => 0
  | k + 1 => if g.testBit k = true then psiN o g k ||| 2 ^ o k else psiN o g k
theorem psi_bit (o : Nat → Nat) (g j : Nat) : ∀ k, (psiN o g k).testBit j = true ↔ ∃ i, i < k ∧ g.testBit i = true ∧ o i = j
  | 0 => by simp [psiN]
  | k + 1 => by
    have ih := psi_bit o g j k
    unfold psiN
    split
    · rename_i h
      rw [Nat.testBit_or, Bool.or_eq_true, ih, Nat.testBit_two_pow, decide_eq_true_eq]
      constructor
      · rintro (⟨i, h1, h2, h3⟩ | h1)
        · exact ⟨i, by omega, h2, h3⟩
        · exact ⟨k, by omega, h, h1⟩
      · rintro ⟨i, h1, h2, h3⟩
        by_cases e : i = k
        · subst e; exact .inr h3
        · exact .inl ⟨i, by omega, h2, h3⟩
    · rename_i h
      rw [ih]
      constructor
      · rintro ⟨i, h1, h2, h3⟩; exact ⟨i, by omega, h2, h3⟩
      · rintro ⟨i, h1, h2, h3⟩
        by_cases e : i = k
        · subst e; exact absurd h2 h
        · exact ⟨i, by omega, h2, h3⟩
/-- The holders k whose o k is in a group. -/
def phiN (o : Nat → Nat) (x : Nat) : Nat → Nat
  | 0 => 0
  | k + 1 => if x.testBit (o k) = true then phiN o x k ||| 2 ^ k else phiN o x k
theorem phi_bit (o : Nat → Nat) (x j : Nat) : ∀ k, (phiN o x k).testBit j = true ↔ j < k ∧ x.testBit (o j) = true
  | 0 => by simp [phiN]
  | k + 1 => by
    have ih := phi_bit o x j k
    unfold phiN
    split
    · rename_i h
      rw [Nat.testBit_or, Bool.or_eq_true, ih, Nat.testBit_two_pow, decide_eq_true_eq]
      constructor
      · rintro (⟨h1, h2⟩ | h1)
        · exact ⟨by omega, h2⟩
        · subst h1; exact ⟨by omega, h⟩
      · rintro ⟨h1, h2⟩
        by_cases e : k = j
        · exact .inr e
        · exact .inl ⟨by omega, h2⟩
    · rename_i h
      rw [ih]
      constructor
      · rintro ⟨h1, h2⟩; exact ⟨by omega, h2⟩
      · rintro ⟨h1, h2⟩
        by_cases e : j = k
        · subst e; exact absurd h2 h
        · exact ⟨by omega, h2⟩
theorem phi_lt (o : Nat → Nat) (x k : Nat) : phiN o x k < 2 ^ k := Nat.lt_pow_two_of_testBit _ fun i hi => by
  cases h : (phiN o x k).testBit i with
  | false => rfl
  | true => have := ((phi_bit o x i k).1 h).1; omega

/-- An order of m holders. -/
structure Ord (o : Nat → Nat) (m : Nat) : Prop where
  lt : ∀ i, i < m → o i < m
  inj : ∀ i j, i < m → j < m → o i = o j → i = j
theorem Ord.surj : ∀ {m : Nat} {o : Nat → Nat}, Ord o m → ∀ j, j < m → ∃ i, i < m ∧ o i = j
  | 0, _, _, j, hj => absurd hj (Nat.not_lt_zero _)
  | m + 1, o, h, j, hj => by
    by_cases hv : o m = m
    · have ih := Ord.surj (m := m) (o := o) ⟨fun i hi => by
        have h1 := h.lt i (by omega)
        have h2 : o i ≠ m := fun e => by have := h.inj i m (by omega) (by omega) (e.trans hv.symm); omega
        omega, fun i k hi hk e => h.inj i k (by omega) (by omega) e⟩
      by_cases e : j = m
      · exact ⟨m, by omega, by rw [e]; exact hv⟩
      · obtain ⟨i, h1, h2⟩ := ih j (by omega)
        exact ⟨i, by omega, h2⟩
    · have hvm : o m < m := by have := h.lt m (by omega); omega
      have ih := Ord.surj (m := m) (o := fun i => if o i = m then o m else o i) ⟨fun i hi => by
        have h1 := h.lt i (by omega)
        show (if o i = m then o m else o i) < m
        split <;> omega, fun i k hi hk e => by
        have e' : (if o i = m then o m else o i) = (if o k = m then o m else o k) := e
        by_cases ei : o i = m
        · by_cases ek : o k = m
          · exact h.inj i k (by omega) (by omega) (ei.trans ek.symm)
          · rw [if_pos ei, if_neg ek] at e'
            have := h.inj m k (by omega) (by omega) e'
            omega
        · by_cases ek : o k = m
          · rw [if_neg ei, if_pos ek] at e'
            have := h.inj i m (by omega) (by omega) e'
            omega
          · rw [if_neg ei, if_neg ek] at e'
            exact h.inj i k (by omega) (by omega) e'⟩
      by_cases ej : j = m
      · obtain ⟨i, h1, h2⟩ := ih (o m) hvm
        have h2' : (if o i = m then o m else o i) = o m := h2
        by_cases ei : o i = m
        · exact ⟨i, by omega, by rw [ej]; exact ei⟩
        · rw [if_neg ei] at h2'
          have := h.inj i m (by omega) (by omega) h2'
          omega
      · by_cases ev : j = o m
        · exact ⟨m, by omega, ev.symm⟩
        · obtain ⟨i, h1, h2⟩ := ih j (by omega)
          have h2' : (if o i = m then o m else o i) = j := h2
          by_cases ei : o i = m
          · rw [if_pos ei] at h2'; exact absurd h2'.symm ev
          · rw [if_neg ei] at h2'; exact ⟨i, by omega, h2'⟩

theorem bit_lt {x m i : Nat} (hx : x < 2 ^ m) (h : x.testBit i = true) : i < m := by
  rcases Nat.lt_or_ge i m with h1 | h1
  · exact h1
  · have : x < 2 ^ i := Nat.lt_of_lt_of_le hx (Nat.pow_le_pow_right (by decide) h1)
    rw [Nat.testBit_lt_two_pow this] at h; cases h
theorem eq_of_bits {x y : Nat} (h : ∀ i, x.testBit i = true ↔ y.testBit i = true) : x = y := Nat.eq_of_testBit_eq fun i => by
  cases hx : x.testBit i with
  | true => exact ((h i).1 hx).symm
  | false =>
    cases hy : y.testBit i with
    | false => rfl
    | true => rw [(h i).2 hy] at hx; cases hx
theorem sub_iff {x y : Nat} : x &&& y = x ↔ ∀ i, x.testBit i = true → y.testBit i = true := by
  constructor
  · intro h i hi
    rw [← h, Nat.testBit_and, Bool.and_eq_true] at hi
    exact hi.2
  · intro h
    refine eq_of_bits fun i => ?_
    rw [Nat.testBit_and, Bool.and_eq_true]
    exact ⟨fun k => k.1, fun k => ⟨k, h i k⟩⟩
theorem phi_psi {o : Nat → Nat} {m : Nat} (h : Ord o m) {y : Nat} (hy : y < 2 ^ m) : phiN o (psiN o y m) m = y := eq_of_bits fun i => by
  rw [phi_bit, psi_bit]
  constructor
  · rintro ⟨h1, k, h2, h3, h4⟩
    rw [← h.inj k i h2 h1 h4]; exact h3
  · intro h1
    have := bit_lt hy h1
    exact ⟨this, i, this, h1, rfl⟩
theorem psi_phi {o : Nat → Nat} {m : Nat} (h : Ord o m) {x : Nat} (hx : x < 2 ^ m) : psiN o (phiN o x m) m = x := eq_of_bits fun j => by
  rw [psi_bit]
  constructor
  · rintro ⟨i, h1, h2, rfl⟩
    exact ((phi_bit o x i m).1 h2).2
  · intro h1
    obtain ⟨i, h2, rfl⟩ := h.surj j (bit_lt hx h1)
    exact ⟨i, h2, (phi_bit o x i m).2 ⟨h2, h1⟩, rfl⟩
theorem psi_lt {o : Nat → Nat} {m : Nat} (h : Ord o m) (y : Nat) : psiN o y m < 2 ^ m := Nat.lt_pow_two_of_testBit _ fun j hj => by
  cases hb : (psiN o y m).testBit j with
  | false => rfl
  | true =>
    obtain ⟨i, h1, _, rfl⟩ := (psi_bit o y j m).1 hb
    have := h.lt i h1
    omega
theorem drop_mask : ∀ i : Fin 7, ∀ j : Fin 7, (127 - 2 ^ i.val).testBit j.val = decide (j.val ≠ i.val) := by decide +kernel
theorem drop_bit {y i j : Nat} (hy : y < 2 ^ 7) (hi : i < 7) : (dropOne y i).testBit j = true ↔ y.testBit j = true ∧ j ≠ i := by
  unfold dropOne
  rw [Nat.testBit_and, Bool.and_eq_true]
  constructor
  · rintro ⟨h1, h2⟩
    have hj := bit_lt hy h1
    have := drop_mask ⟨i, hi⟩ ⟨j, hj⟩
    simp only at this
    rw [this] at h2
    exact ⟨h1, of_decide_eq_true h2⟩
  · rintro ⟨h1, h2⟩
    have hj := bit_lt hy h1
    have := drop_mask ⟨i, hi⟩ ⟨j, hj⟩
    simp only at this
    exact ⟨h1, by rw [this]; exact decide_eq_true h2⟩
theorem leastB_iff {m : Nat} {q : Nat → Bool} {y : Nat} : leastB m q y = true ↔ q y = true ∧ ∀ i, i < m → y.testBit i = true → q (dropOne y i) = false := by
  unfold leastB
  rw [Bool.and_eq_true, List.all_eq_true]
  constructor
  · rintro ⟨h1, h2⟩
    refine ⟨h2, fun i hi hb => ?_⟩
    have := h1 i (List.mem_range.2 hi)
    rw [hb] at this
    simpa using this
  · rintro ⟨h1, h2⟩
    refine ⟨fun i hi => ?_, h1⟩
    cases hb : y.testBit i with
    | false => rfl
    | true => rw [h2 i (List.mem_range.1 hi) hb]; rfl
theorem anyIn_iff {l : List Nat} {x : Nat} : anyIn l x = true ↔ ∃ y ∈ l, ∀ i, y.testBit i = true → x.testBit i = true := by
  unfold anyIn
  rw [List.any_eq_true]
  constructor
  · rintro ⟨y, h1, h2⟩
    exact ⟨y, h1, sub_iff.1 (by simpa using h2)⟩
  · rintro ⟨y, h1, h2⟩
    exact ⟨y, h1, by simpa using sub_iff.2 h2⟩

/-- An antichain of groups: the least ones of what opens for the renamed are the renamed ones. -/
theorem least_renamed {o : Nat → Nat} {m : Nat} (h : Ord o m) (h7 : m ≤ 7) {xs : List Nat} (hx : ∀ x ∈ xs, x < 2 ^ m) (ha : ∀ x ∈ xs, ∀ y ∈ xs, (∀ i, x.testBit i = true → y.testBit i = true) → x = y) (y : Nat) (hy : y < 2 ^ m) :
    leastB m (fun y => anyIn xs (psiN o y m)) y = true ↔ ∃ x ∈ xs, phiN o x m = y := by
  have hy7 : y < 2 ^ 7 := Nat.lt_of_lt_of_le hy (Nat.pow_le_pow_right (by decide) h7)
  rw [leastB_iff]
  constructor
  · rintro ⟨h1, h2⟩
    obtain ⟨x, hxs, hsub⟩ := anyIn_iff.1 h1
    refine ⟨x, hxs, Classical.byContradiction fun hne => ?_⟩
    have hps : ∀ i, (phiN o x m).testBit i = true → y.testBit i = true := fun i hi => by
      obtain ⟨a1, a2⟩ := (phi_bit o x i m).1 hi
      obtain ⟨k, b1, b2, b3⟩ := (psi_bit o y (o i) m).1 (hsub _ a2)
      rw [← h.inj k i b1 a1 b3]; exact b2
    obtain ⟨i, hi⟩ : ∃ i, ¬ ((phiN o x m).testBit i = true ↔ y.testBit i = true) := Classical.byContradiction fun k => hne (eq_of_bits fun i => Classical.byContradiction fun q => k ⟨i, q⟩)
    have hyi : y.testBit i = true := Classical.byContradiction fun q => hi ⟨fun a => hps i a, fun a => absurd a q⟩
    have hpi : ¬ (phiN o x m).testBit i = true := fun a => hi ⟨fun _ => hyi, fun _ => a⟩
    have him := bit_lt hy hyi
    have h3 := h2 i him hyi
    have h4 : anyIn xs (psiN o (dropOne y i) m) = true := anyIn_iff.2 ⟨x, hxs, fun j hj => by
      obtain ⟨k, b1, b2, b3⟩ := (psi_bit o y j m).1 (hsub j hj)
      refine (psi_bit o _ j m).2 ⟨k, b1, (drop_bit hy7 (by omega)).2 ⟨b2, fun e => hpi ?_⟩, b3⟩
      subst e
      exact (phi_bit o x k m).2 ⟨b1, by rw [b3]; exact hj⟩⟩
    rw [h4] at h3; cases h3
  · rintro ⟨x, hxs, rfl⟩
    refine ⟨anyIn_iff.2 ⟨x, hxs, fun i hi => by rw [psi_phi h (hx x hxs)]; exact hi⟩, fun i him hb => ?_⟩
    cases hc : anyIn xs (psiN o (dropOne (phiN o x m) i) m) with
    | false => rfl
    | true =>
      exfalso
      obtain ⟨x', hxs', hsub⟩ := anyIn_iff.1 hc
      have hpp := psi_phi h (hx x hxs)
      have hle : ∀ j, x'.testBit j = true → x.testBit j = true ∧ j ≠ o i := fun j hj => by
        obtain ⟨k, b1, b2, b3⟩ := (psi_bit o _ j m).1 (hsub j hj)
        obtain ⟨c1, c2⟩ := (drop_bit hy7 (by omega)).1 b2
        refine ⟨?_, fun e => c2 (h.inj k i b1 him (b3.trans e))⟩
        rw [← hpp]
        exact (psi_bit o _ j m).2 ⟨k, b1, c1, b3⟩
      have heq := ha x' hxs' x hxs fun j hj => (hle j hj).1
      have hoi := ((phi_bit o x i m).1 hb).2
      rw [← heq] at hoi
      exact (hle (o i) hoi).2 rfl

/-- Sorted renamed groups. -/
theorem renamed_sorted {o : Nat → Nat} {m : Nat} (h : Ord o m) (h7 : m ≤ 7) {xs : List Nat} (hx : ∀ x ∈ xs, x < 2 ^ m) (ha : ∀ x ∈ xs, ∀ y ∈ xs, (∀ i, x.testBit i = true → y.testBit i = true) → x = y) (hn : xs.Nodup)
    {zss : List (List Int)} (hs : Sorts (xs.map fun x => listOf (phiN o x m)) zss) : zss = famOf m (fun y => anyIn xs (psiN o y m)) := by
  refine sorted_pick h7 _ ⟨hs.1.trans ?_, hs.2⟩
  have hp : (xs.map fun x => phiN o x m).Perm ((List.range (2 ^ m)).filter (leastB m fun y => anyIn xs (psiN o y m))) := by
    refine (List.perm_ext_iff_of_nodup ?_ ?_).2 fun y => ?_
    · rw [List.Nodup, List.pairwise_map]
      refine List.Pairwise.imp_of_mem (R := fun a b => a ≠ b) (fun {a b} h1 h2 hne e => hne ?_) hn
      rw [← psi_phi h (hx a h1), ← psi_phi h (hx b h2), e]
    · exact List.Pairwise.sublist List.filter_sublist List.nodup_range
    · rw [List.mem_map, List.mem_filter, List.mem_range]
      constructor
      · rintro ⟨x, h1, rfl⟩
        exact ⟨phi_lt o x m, (least_renamed h h7 hx ha _ (phi_lt o x m)).2 ⟨x, h1, rfl⟩⟩
      · rintro ⟨h1, h2⟩
        exact (least_renamed h h7 hx ha y h1).1 h2
  have := hp.map listOf
  rw [List.map_map] at this
  exact this
end Go.Proofs.YtnebkhelobpkpaaDoor

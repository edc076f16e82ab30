/- The family of a rule; sorting; lists of groups in their order: plain mathematics. -/
import Derived.Test.YtnebkhelobpkpaaDoorGwA
namespace Go.Proofs.YtnebkhelobpkpaaDoor
open Go.RowKit Go.Deep
set_option linter.unusedVariables false

/-- The least groups of a rule, in lexicographic order. -/
def famOf (h : Nat) (p : Nat → Bool) : List (List Int) := pickOf (leastB h p) (lexAll h)

theorem mem_lex_fact : ∀ h : Fin 8, ∀ y : Fin 128, decide (y ∈ lexAll h.val) = decide (y.val < 2 ^ h.val) := by decide +kernel
theorem mem_lex {h : Nat} (h7 : h ≤ 7) (y : G7) : y ∈ lexAll h ↔ y.val < 2 ^ h := by
  have := mem_lex_fact ⟨h, by omega⟩ y
  simpa using this
theorem dropOne_le (x i : Nat) : dropOne x i ≤ x := Nat.and_le_left
theorem leastB_congr {h : Nat} {p q : Nat → Bool} {x : Nat} (hx : x < 2 ^ h) (e : ∀ y, y < 2 ^ h → p y = q y) : leastB h p x = leastB h q x := by
  have e1 : (fun i => !(x.testBit i && p (dropOne x i))) = fun i => !(x.testBit i && q (dropOne x i)) := by
    funext i
    rw [e _ (Nat.lt_of_le_of_lt (dropOne_le x i) hx)]
  unfold leastB
  rw [e1, e x hx]
theorem pickOf_congr {p q : Nat → Bool} {l : List G7} (e : ∀ y ∈ l, p y.val = q y.val) : pickOf p l = pickOf q l := by
  unfold pickOf
  rw [List.filter_congr e]
theorem famOf_congr {h : Nat} (h7 : h ≤ 7) {p q : Nat → Bool} (e : ∀ y, y < 2 ^ h → p y = q y) : famOf h p = famOf h q :=
  pickOf_congr fun y hy => leastB_congr ((mem_lex h7 y).1 hy) e
theorem seenBy_all {h : Nat} (h7 : h ≤ 7) (p : Nat → Bool) {x : Nat} (hx : x < 2 ^ h) : seenBy p (lexAll h) x = p x := by
  have hx7 : x < 128 := Nat.lt_of_lt_of_le hx (Nat.pow_le_pow_right (by decide) h7 : 2 ^ h ≤ 2 ^ 7)
  unfold seenBy
  rw [decide_eq_true (⟨⟨x, hx7⟩, (mem_lex h7 _).2 hx, rfl⟩ : ∃ y ∈ lexAll h, y.val = x), Bool.true_and]
theorem famOf_seen {h : Nat} (h7 : h ≤ 7) (p : Nat → Bool) : pickOf (leastB h (seenBy p (lexAll h))) (lexAll h) = famOf h p :=
  famOf_congr h7 fun _ hy => seenBy_all h7 p hy

/-! Sorting by exchanges. -/
section
variable {α : Type} (lt : α → α → Bool)
def bubble : Nat → List α → List α
  | 0, l => l
  | k + 1, l => if h : k + 1 < l.length then (if lt l[k + 1] l[k] = true then bubble k ((l.set (k + 1) l[k]).set k l[k + 1]) else l) else l
def sortFrom : Nat → Nat → List α → List α
  | 0, _, l => l
  | n + 1, i, l => sortFrom n (i + 1) (bubble lt i l)

theorem bubble_yes {k : Nat} {l : List α} (h : k + 1 < l.length) (hl : lt l[k + 1] l[k] = true) : bubble lt (k + 1) l = bubble lt k ((l.set (k + 1) l[k]).set k l[k + 1]) := by
  rw [bubble, dif_pos h, if_pos hl]
theorem bubble_no {k : Nat} {l : List α} (h : k + 1 < l.length) (hl : lt l[k + 1] l[k] = false) : bubble lt (k + 1) l = l := by
  rw [bubble, dif_pos h, if_neg (by simp [hl])]

theorem bubble_main (asymm : ∀ a b, lt a b = true → lt b a = false) (neg : ∀ x a y, lt x a = false → lt a y = false → lt x y = false) :
    ∀ (k : Nat) (A : List α) (x : α) (B R : List α), A.length = k → (A ++ B).Pairwise (fun a b => lt b a = false) → (∀ b ∈ B, lt x b = true) →
      ∃ S, bubble lt k (A ++ x :: (B ++ R)) = S ++ R ∧ S.Perm (A ++ x :: B) ∧ S.Pairwise (fun a b => lt b a = false)
  | 0, A, x, B, R, hA, hs, hB => by
    obtain rfl : A = [] := List.eq_nil_of_length_eq_zero hA
    exact ⟨x :: B, rfl, List.Perm.refl _, List.pairwise_cons.2 ⟨fun b hb => asymm _ _ (hB b hb), hs⟩⟩
  | k + 1, A, x, B, R, hA, hs, hB => by
    obtain ⟨A', a, rfl⟩ : ∃ A' a, A = A' ++ [a] := ⟨A.dropLast, A.getLast (by intro e; rw [e] at hA; cases hA), (List.dropLast_concat_getLast _).symm⟩
    have hA' : A'.length = k := by simpa using hA
    have hlen : k + 1 < ((A' ++ [a]) ++ x :: (B ++ R)).length := by simp; omega
    have e1 : ((A' ++ [a]) ++ x :: (B ++ R))[k + 1]'hlen = x := by
      rw [List.getElem_append_right (by simp; omega)]; simp [hA']
    have e0 : ((A' ++ [a]) ++ x :: (B ++ R))[k]'(by omega) = a := by
      rw [List.getElem_append_left (by simp; omega), List.getElem_append_right (by omega)]; simp [hA']
    cases hl : lt x a with
    | true =>
      rw [bubble_yes lt hlen (by rw [e1, e0]; exact hl), e1, e0]
      have e2 : ((((A' ++ [a]) ++ x :: (B ++ R)).set (k + 1) a).set k x) = A' ++ x :: ((a :: B) ++ R) := by
        rw [List.set_append_right _ _ (by simp; omega)]
        simp only [List.length_append, hA', List.length_cons, List.length_nil, Nat.sub_self, List.set_cons_zero, List.append_assoc, List.cons_append, List.nil_append, Nat.zero_add]
        rw [List.set_append_right _ _ (by omega), hA', Nat.sub_self, List.set_cons_zero]
      rw [e2]
      obtain ⟨S, h1, h2, h3⟩ := bubble_main asymm neg k A' x (a :: B) R hA' (by simpa using hs) (fun b hb => by
        rcases List.mem_cons.1 hb with rfl | hb
        · exact hl
        · exact hB b hb)
      refine ⟨S, h1, h2.trans ?_, h3⟩
      rw [List.append_assoc]
      exact List.Perm.append_left _ (List.Perm.swap _ _ _)
    | false =>
      rw [bubble_no lt hlen (by rw [e1, e0]; exact hl)]
      refine ⟨(A' ++ [a]) ++ x :: B, by simp, List.Perm.refl _, ?_⟩
      obtain ⟨p1, p2, p3⟩ := List.pairwise_append.1 hs
      obtain ⟨q1, _, q3⟩ := List.pairwise_append.1 p1
      refine List.pairwise_append.2 ⟨p1, List.pairwise_cons.2 ⟨fun b hb => asymm _ _ (hB b hb), p2⟩, fun y hy z hz => ?_⟩
      have hxy : lt x y = false := by
        rcases List.mem_append.1 hy with hy | hy
        · exact neg x a y hl (q3 y hy a (by simp))
        · obtain rfl : y = a := by simpa using hy
          exact hl
      rcases List.mem_cons.1 hz with rfl | hz
      · exact hxy
      · exact p3 y hy z hz

theorem sortFrom_main (asymm : ∀ a b, lt a b = true → lt b a = false) (neg : ∀ x a y, lt x a = false → lt a y = false → lt x y = false) :
    ∀ (n i : Nat) (l : List α), i + n = l.length → (l.take i).Pairwise (fun a b => lt b a = false) →
      (sortFrom lt n i l).Perm l ∧ (sortFrom lt n i l).Pairwise (fun a b => lt b a = false)
  | 0, i, l, hi, hs => ⟨List.Perm.refl _, by rw [List.take_of_length_le (by omega)] at hs; exact hs⟩
  | n + 1, i, l, hi, hs => by
    have hil : i < l.length := by omega
    have e : l = l.take i ++ l[i] :: ([] ++ l.drop (i + 1)) := by
      rw [List.nil_append, ← List.drop_eq_getElem_cons hil, List.take_append_drop]
    obtain ⟨S, h1, h2, h3⟩ := bubble_main lt asymm neg i (l.take i) l[i] [] (l.drop (i + 1)) (by simp; omega) (by simpa using hs) (by simp)
    rw [← e] at h1
    have hSl : S.length = i + 1 := by rw [h2.length_eq]; simp; omega
    have hlen : (bubble lt i l).length = l.length := by rw [h1]; simp [hSl]; omega
    obtain ⟨r1, r2⟩ := sortFrom_main asymm neg n (i + 1) (bubble lt i l) (by omega) (by rw [h1, List.take_append_of_le_length (by omega), List.take_of_length_le (by omega)]; exact h3)
    refine ⟨r1.trans ?_, r2⟩
    rw [h1]
    refine (List.Perm.append_right _ h2).trans ?_
    have e2 : (l.take i ++ [l[i]]) ++ l.drop (i + 1) = l := by
      rw [List.append_assoc]; simp
    rw [e2]

theorem bubble_mem : ∀ (k : Nat) (l : List α) (q : α), q ∈ bubble lt k l → q ∈ l
  | 0, l, q, h => h
  | k + 1, l, q, h => by
    rw [bubble] at h
    split at h
    · split at h
      · have h2 := bubble_mem k _ q h
        rcases List.mem_or_eq_of_mem_set h2 with h3 | rfl
        · rcases List.mem_or_eq_of_mem_set h3 with h4 | rfl
          · exact h4
          · exact List.getElem_mem _
        · exact List.getElem_mem _
      · exact h
    · exact h
end

/-! The lexicographic order. -/
theorem lex_asymm : ∀ a b : List Int, lexCmp a b < 0 → ¬ lexCmp b a < 0
  | [], [], h => by simp [lexCmp] at h
  | [], _ :: _, _ => by simp [lexCmp]
  | _ :: _, [], h => by simp [lexCmp] at h
  | x :: xs, y :: ys, h => by
    simp only [lexCmp] at h ⊢
    by_cases h1 : x < y
    · rw [if_neg (by omega), if_pos h1]; omega
    · by_cases h2 : y < x
      · rw [if_neg h1, if_pos h2] at h; omega
      · rw [if_neg h1, if_neg h2] at h
        rw [if_neg h2, if_neg h1]
        exact lex_asymm xs ys h
theorem lex_neg : ∀ x a y : List Int, ¬ lexCmp x a < 0 → ¬ lexCmp a y < 0 → ¬ lexCmp x y < 0
  | [], [], y, _, h2 => h2
  | [], _ :: _, _, h1, _ => absurd (by simp [lexCmp]) h1
  | _ :: _, _, [], _, _ => by simp [lexCmp]
  | _ :: _, [], _ :: _, _, h2 => absurd (by simp [lexCmp]) h2
  | x :: xs, a :: az, y :: ys, h1, h2 => by
    simp only [lexCmp] at h1 h2 ⊢
    by_cases c1 : x < a
    · rw [if_pos c1] at h1; omega
    · rw [if_neg c1] at h1
      by_cases c2 : a < y
      · rw [if_pos c2] at h2; omega
      · rw [if_neg c2] at h2
        by_cases c3 : a < x
        · rw [if_neg (by omega), if_pos (by omega)]; omega
        · rw [if_neg c3] at h1
          by_cases c4 : y < a
          · rw [if_neg (by omega), if_pos (by omega)]; omega
          · rw [if_neg c4] at h2
            rw [if_neg (by omega), if_neg (by omega)]
            exact lex_neg xs az ys h1 h2
theorem lex_eq : ∀ a b : List Int, ¬ lexCmp a b < 0 → ¬ lexCmp b a < 0 → a = b
  | [], [], _, _ => rfl
  | [], _ :: _, h, _ => absurd (by simp [lexCmp]) h
  | _ :: _, [], _, h => absurd (by simp [lexCmp]) h
  | x :: xs, y :: ys, h1, h2 => by
    simp only [lexCmp] at h1 h2
    by_cases c1 : x < y
    · rw [if_pos c1] at h1; omega
    · by_cases c2 : y < x
      · rw [if_pos c2] at h2; omega
      · rw [if_neg c1, if_neg c2] at h1
        rw [if_neg c2, if_neg c1] at h2
        rw [show x = y by omega, lex_eq xs ys h1 h2]

noncomputable def ltP (a b : Value × List Int) : Bool := tell (Before a.2 b.2)
theorem ltP_true {a b : Value × List Int} : ltP a b = true ↔ Before a.2 b.2 := ⟨of_tell, tell_true⟩
theorem ltP_false {a b : Value × List Int} : ltP a b = false ↔ ¬ Before a.2 b.2 := ⟨of_tell_false, tell_false⟩
theorem ltP_asymm (a b : Value × List Int) (h : ltP a b = true) : ltP b a = false := ltP_false.2 (lex_asymm _ _ (ltP_true.1 h))
theorem ltP_neg (x a y : Value × List Int) (h1 : ltP x a = false) (h2 : ltP a y = false) : ltP x y = false := ltP_false.2 (lex_neg _ _ _ (ltP_false.1 h1) (ltP_false.1 h2))

/-- What sorting gives. -/
def Sorts (zss zss' : List (List Int)) : Prop := zss'.Perm zss ∧ zss'.Pairwise (fun a b => ¬ Before b a)
theorem sorts_of (ps : List (Value × List Int)) : Sorts (ps.map Prod.snd) ((sortFrom ltP (ps.length - 1) 1 ps).map Prod.snd) := by
  by_cases h0 : ps.length = 0
  · obtain rfl : ps = [] := List.eq_nil_of_length_eq_zero h0
    exact ⟨List.Perm.refl _, List.Pairwise.nil⟩
  · obtain ⟨h1, h2⟩ := sortFrom_main ltP ltP_asymm ltP_neg (ps.length - 1) 1 ps (by omega) (by
      obtain ⟨q, qs, rfl⟩ : ∃ q qs, ps = q :: qs := by
        cases ps with
        | nil => exact absurd rfl h0
        | cons q qs => exact ⟨q, qs, rfl⟩
      simp)
    exact ⟨h1.map _, (List.pairwise_map).2 (h2.imp fun h => ltP_false.1 h)⟩

theorem lex_chain_fact : ∀ h : Fin 8, ((lexAll h.val).map fun g => listOf g.val).Pairwise (fun a b => lexCmp a b < 0) := by decide +kernel
theorem lex_perm_fact : ∀ h : Fin 8, ((lexAll h.val).map Fin.val).isPerm (List.range (2 ^ h.val)) = true := by decide +kernel
theorem pickOf_before {h : Nat} (h7 : h ≤ 7) (p : Nat → Bool) : (pickOf p (lexAll h)).Pairwise (fun a b => Before a b) := by
  have h1 := lex_chain_fact ⟨h, by omega⟩
  refine List.Pairwise.sublist ?_ h1
  exact List.Sublist.map _ List.filter_sublist
theorem picked_perm {h : Nat} (h7 : h ≤ 7) (p : Nat → Bool) : (((List.range (2 ^ h)).filter p).map listOf).Perm (pickOf p (lexAll h)) := by
  have h1 := List.isPerm_iff.1 (lex_perm_fact ⟨h, by omega⟩)
  have h2 : pickOf p (lexAll h) = (((lexAll h).map Fin.val).filter p).map listOf := by
    rw [List.filter_map, List.map_map]; rfl
  rw [h2]
  exact ((h1.filter p).map listOf).symm
/-- The chosen groups, sorted, are those in lexicographic order. -/
theorem sorted_pick {h : Nat} (h7 : h ≤ 7) (p : Nat → Bool) {zss : List (List Int)} (hs : Sorts (((List.range (2 ^ h)).filter p).map listOf) zss) : zss = pickOf p (lexAll h) := by
  refine List.Perm.eq_of_pairwise (le := fun a b => ¬ Before b a) (fun a b _ _ h1 h2 => lex_eq a b h2 h1) hs.2 ((pickOf_before h7 p).imp fun h => lex_asymm _ _ h) ?_
  exact hs.1.trans (picked_perm h7 p)
end Go.Proofs.YtnebkhelobpkpaaDoor

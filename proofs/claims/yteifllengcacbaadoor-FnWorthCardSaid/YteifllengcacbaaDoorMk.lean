/- The laws' marks on slices of slices that a call has made: markInt64SS, heldInt64SS, markFamily, heldFamily, eqFamily. -/
import Derived.Test.YteifllengcacbaaDoorMark2
import Derived.Test.YteifllengcacbaaDoorRrows
import Derived.Test.YteifllengcacbaaDoorGwA
namespace Go.Proofs.YteifllengcacbaaDoor
open Go.RowKit Go.Deep
set_option linter.unusedVariables false

/-- Slices of slices that a call has made. -/
structure Own (W : World) (base : Nat) (v : Value) (us : List Value) (zss : List (List Int)) : Prop where
  row : W.ownsRow base 28 1 v zss.length us
  rows : RowsOwn W base us zss
theorem Own.step {W W' : World} {base : Nat} {v : Value} {us : List Value} {zss : List (List Int)} (h : Own W base v us zss) (hb : Below W.heap.size W W') : Own W' base v us zss := ⟨row_step h.row hb, h.rows.map fun _ _ k => k.step hb⟩
theorem Own.form {W : World} {base : Nat} {v : Value} {us : List Value} {zss : List (List Int)} (h : Own W base v us zss) : ∃ a c, v = .slice a zss.length c := rowForm h.row
theorem Own.rows2 {W : World} {base : Nat} {v : Value} {us : List Value} {zss : List (List Int)} (h : Own W base v us zss) : ∃ a c, v = .slice a zss.length c ∧ Rows2 W a zss := by
  rcases h.row.2 with ⟨hv, hn⟩ | ⟨g, cap, cur, hv, hb, hg, hnc, hcm, hcs, htake⟩
  · exact ⟨none, 0, by rw [hv, hn], .inl (List.eq_nil_of_length_eq_zero hn)⟩
  · have hr := h.row
    subst hv
    refine ⟨_, _, rfl, .inr ⟨g, 0, rfl, fun i hi => ?_⟩⟩
    have hi' : i < us.length := by rw [h.rows.len]; exact hi
    obtain ⟨a, c, e, hI, _⟩ := (h.rows.own i us[i] zss[i] (by simp [hi']) (by simp [hi])).ints
    rw [nthL_lt hi]
    exact ⟨a, c, by rw [Nat.zero_add, World.ownsRow.cellAt hr i (by omega), List.getElem?_eq_getElem hi', e], hI⟩
theorem Own.touch {lo hi : Nat} {w w' : World} (h : Touch lo hi w w') {base : Nat} {v : Value} {us : List Value} {zss : List (List Int)} (k : Own w base v us zss) (hb : hi ≤ base) : Own w' base v us zss := by
  refine ⟨⟨k.row.1, ?_⟩, k.rows.map fun _ _ q => h.own q hb⟩
  rcases k.row.2 with h2 | ⟨g, cap, cur, hv, hg, hh, r⟩
  · exact .inl h2
  · exact .inr ⟨g, cap, cur, hv, hg, by rw [h.block g (Array.getElem?_eq_some_iff.1 hh).1 (.inr (by omega))]; exact hh, r⟩

/-- Rows that have been marked, from k on. -/
def marked (k : Int) : List (List Int) → List (List Int)
  | [] => []
  | z :: zs => marks k z.length :: marked (k + z.length) zs
def total : List (List Int) → Int
  | [] => 0
  | z :: zs => z.length + total zs
theorem total_snoc (l : List (List Int)) (z : List Int) : total (l ++ [z]) = total l + z.length := by
  induction l with
  | nil => simp [total]
  | cons x l ih => simp only [List.cons_append, total, ih]; omega
theorem total_nonneg (l : List (List Int)) : 0 ≤ total l := by
  induction l with
  | nil => simp [total]
  | cons x l ih => simp only [total]; omega
theorem marked_snoc (k : Int) (l : List (List Int)) (z : List Int) : marked k (l ++ [z]) = marked k l ++ [marks (k + total l) z.length] := by
  induction l generalizing k with
  | nil => simp [marked, total]
  | cons x l ih => simp only [List.cons_append, marked, ih, total]; rw [Int.add_assoc]
theorem marked_len (k : Int) (l : List (List Int)) : (marked k l).length = l.length := by
  induction l generalizing k with
  | nil => rfl
  | cons x l ih => simp [marked, ih]
theorem marked_nth (k : Int) (l : List (List Int)) (r : Nat) (h : r < l.length) : nthL (marked k l) r = marks (k + total (l.take r)) (nthL l r).length := by
  induction l generalizing k r with
  | nil => simp at h
  | cons x l ih =>
    cases r with
    | zero => simp [marked, nthL, total]
    | succ r =>
      have := ih (k + x.length) r (by simpa using h)
      simp only [marked, List.take_succ_cons, total]
      rw [show nthL (marks k x.length :: marked (k + x.length) l) (r + 1) = nthL (marked (k + x.length) l) r by simp [nthL], show nthL (x :: l) (r + 1) = nthL l r by simp [nthL], this, Int.add_assoc]
theorem total_take {l : List (List Int)} {j : Nat} (h : j < l.length) : total (l.take (j + 1)) = total (l.take j) + (nthL l j).length := by
  rw [List.take_succ_eq_append_getElem h, total_snoc, nthL_lt h]
theorem marked_half (k : Int) (l : List (List Int)) {j : Nat} (h : j < l.length) : (marked k (l.take j) ++ l.drop j).set j (marks (k + total (l.take j)) (nthL l j).length) = marked k (l.take (j + 1)) ++ l.drop (j + 1) := by
  have e : (marked k (l.take j)).length = j := by rw [marked_len, List.length_take]; omega
  rw [List.take_succ_eq_append_getElem h, marked_snoc, List.set_append_right _ _ (by omega), e, Nat.sub_self, List.drop_eq_getElem_cons h, List.set_cons_zero, List.append_assoc, nthL_lt h]
  rfl

theorem RowsOwn.setRow {W W' : World} {base : Nat} {us : List Value} {zss : List (List Int)} {j : Nat} (h : RowsOwn W base us zss) {u0 : Value} (hu0 : us[j]? = some u0) {zs' : List Int} (ho : OwnI W' base u0 zs') (hg : W.grownBy W' u0.ownBlock) : RowsOwn W' base us (zss.set j zs') := by
  obtain ⟨hj, huj⟩ := List.getElem?_eq_some_iff.1 hu0
  subst huj
  refine ⟨by simp [h.len], fun i u zs h1 h2 => ?_, h.sep⟩
  by_cases e : i = j
  · subst e
    rw [List.getElem?_set_self (by rw [← h.len]; exact hj)] at h2
    rw [List.getElem?_eq_getElem hj] at h1
    cases h1; cases h2
    exact ho
  · rw [List.getElem?_set_ne (fun k => e k.symm)] at h2
    have hk := h.own i u zs h1 h2
    refine World.ownsRow.kept hk hg ?_
    cases hb : u.ownBlock with
    | none => exact .inl rfl
    | some b =>
      refine .inr fun e2 => ?_
      obtain ⟨hi, hu⟩ := List.getElem?_eq_some_iff.1 h1
      have hs := List.pairwise_iff_getElem.1 h.sep
      rcases Nat.lt_or_gt_of_ne e with hlt | hlt
      · have := hs i j hi hj hlt b b (by rw [hu]; exact hb) e2.symm
        omega
      · have := hs j i hj hi hlt b b e2.symm (by rw [hu]; exact hb)
        omega

/-- Blocks of other types than numbers stay. -/
def KeepsT (W W' : World) : Prop := ∀ (b : Nat) (vs : Array Value) (t : TypeId) (fr : Nat × Nat), W.heap[b]? = some (Obj.cells vs t fr) → t ≠ 2 → W'.heap[b]? = some (Obj.cells vs t fr)
theorem KeepsT.refl (W : World) : KeepsT W W := fun _ _ _ _ h _ => h
theorem KeepsT.trans {a b c : World} (h : KeepsT a b) (k : KeepsT b c) : KeepsT a c := fun _ _ _ _ h1 h2 => k _ _ _ _ (h _ _ _ _ h1 h2) h2
theorem KeepsT.of_below {a b : World} (h : Below a.heap.size a b) : KeepsT a b := fun _ _ _ _ h1 _ => (h.block _ (Array.getElem?_eq_some_iff.1 h1).1).trans h1
theorem KeepsT.of_grown {a b : World} {base : Nat} {v : Value} {zs : List Int} (h : OwnI a base v zs) (hg : a.grownBy b v.ownBlock) : KeepsT a b := fun q vs t fr h1 h2 => by
  refine (hg.block q (Array.getElem?_eq_some_iff.1 h1).1 (fun e => ?_)).trans h1
  rcases h.2 with ⟨rfl, _⟩ | ⟨g, cap, cur, rfl, _, hgg, _⟩
  · simp [Value.ownBlock] at e
  · simp [Value.ownBlock] at e
    subst e
    rw [hgg] at h1
    cases h1
    exact h2 rfl

/-- What marks such slices. -/
structure MarkedO (W : World) (base : Nat) (v : Value) (us : List Value) (zss : List (List Int)) (k : Int) (e : Ending) (w' : World) : Prop where
  val : e = .returned (.int .i64 (k + total zss))
  own : Own w' base v us (marked k zss)
  below : Below base W w'
  size : W.heap.size ≤ w'.heap.size
  keep : KeepsT W w'

end Go.Proofs.YteifllengcacbaaDoor

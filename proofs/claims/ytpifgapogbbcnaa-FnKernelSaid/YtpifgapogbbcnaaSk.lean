/- StackRows of the model. -/
import Derived.Test.YtpifgapogbbcnaaCp3
namespace Go.Proofs.Ytpifgapogbbcnaa
open Go.RowKit Go.Deep
set_option linter.unusedVariables false

/-- A box of one type. -/
def IsBox (W : World) (B : Nat) (t : TypeId) : Prop := ∃ vs, W.heap[B]? = some (.cells vs t (0, 0))
theorem Boxes.is {W : World} {B : Nat} {t : TypeId} {vs : Array Value} (h : Boxes W B t vs) : IsBox W B t := ⟨vs, h⟩
theorem IsBox.set {W : World} {B : Nat} {t : TypeId} (h : IsBox W B t) (b o : Nat) (u : Value) : IsBox (W.setCell ⟨b, o, none⟩ u) B t := by
  obtain ⟨vs, hv⟩ := h
  by_cases e : b = B
  · subst e
    refine ⟨vs.setIfInBounds o u, ?_⟩
    simp [World.setCell, Array.getElem?_modify, hv]
  · exact ⟨vs, by rw [Below.heap_setCell _ _ _ B (fun q => e q.symm)]; exact hv⟩
theorem IsBox.step {W W' : World} {B : Nat} {t : TypeId} (h : IsBox W B t) (hb : Below W.heap.size W W') : IsBox W' B t := by
  obtain ⟨vs, hv⟩ := h
  exact ⟨vs, (hb.block B (Array.getElem?_eq_some_iff.1 hv).1).trans hv⟩
theorem row_setb {W : World} {base e size k B o : Nat} {t : TypeId} {v : Value} {xs : List Value} (h : W.ownsRow base e size v k xs) (hx : IsBox W B t) (he : e ≠ t) (u : Value) : (W.setCell ⟨B, o, none⟩ u).ownsRow base e size v k xs := by
  refine h.kept ⟨rfl, rfl, rfl, (KeepsWalks.setCell W _ u).size, fun q _ hq => Below.heap_setCell _ _ _ q (fun e => hq (by rw [e]))⟩ (row := some B) ?_
  rcases h.2 with ⟨rfl, _⟩ | ⟨g, cap, cur, rfl, hg, hgb, _⟩
  · exact .inl rfl
  · refine .inr fun e' => ?_
    obtain rfl : g = B := by simpa [Value.ownBlock] using e'
    obtain ⟨vs, hv⟩ := hx
    rw [hgb] at hv; cases hv; exact he rfl
theorem rows_setb {W : World} {base B o : Nat} {t : TypeId} {us : List Value} {z : List (List Int)} (h : RowsOwn W base us z) (hx : IsBox W B t) (he : 2 ≠ t) (u : Value) : RowsOwn (W.setCell ⟨B, o, none⟩ u) base us z := h.map fun _ _ k => row_setb k hx he u
theorem rows_oneS {W : World} {base : Nat} {us : List Value} {z : List (List Int)} (h : RowsOwn W base us z) : ∀ u ∈ us, u.oneCell' = true := fun u hu => by
  obtain ⟨i, hi, rfl⟩ := List.mem_iff_getElem.1 hu
  obtain ⟨a, c, e⟩ := (h.own i us[i] (z[i]'(by rw [← h.len]; exact hi)) (by simp [hi]) (by simp)).form
  rw [e]; rfl
theorem Boxes.all3 {W : World} {B : Nat} {t : TypeId} {u0 u1 u2 : Value} (h : Boxes W B t #[u0, u1, u2]) (x0 x1 x2 : Value) : Boxes (((W.setCell ⟨B, 0, none⟩ x0).setCell ⟨B, 1, none⟩ x1).setCell ⟨B, 2, none⟩ x2) B t #[x0, x1, x2] := by
  unfold Boxes at h ⊢
  simp [World.setCell, Array.getElem?_modify, h]
/-- Rows, and others behind them. -/
theorem rows2_cat {W : World} {B1 B2 B3 n c : Nat} {a : Option Addr} {us us2 : List Value} {z y : List (List Int)} (hr : W.ownsRow B1 28 1 (.slice a n c) (z.length + y.length) (us ++ us2)) (h1 : RowsOwn W B2 us z) (h2 : RowsOwn W B3 us2 y) :
    n = (z ++ y).length ∧ Rows2 W a (z ++ y) := by
  obtain ⟨a', c', e⟩ := rowForm hr
  cases e
  refine ⟨by simp, ?_⟩
  rcases hr.2 with ⟨hv, hn⟩ | ⟨g, cap, cur, hv, _⟩
  · exact .inl (List.eq_nil_of_length_eq_zero (by simpa using hn))
  · cases hv
    refine .inr ⟨g, 0, rfl, fun i hi => ?_⟩
    rw [Nat.zero_add, World.ownsRow.cellAt hr i (by simpa using hi)]
    by_cases hz : i < z.length
    · have hu : i < us.length := by rw [h1.len]; exact hz
      obtain ⟨a2, c2, e2, hI, _⟩ := (h1.own i us[i] z[i] (by simp [hu]) (by simp [hz])).ints
      have e3 : nthL (z ++ y) i = z[i] := by rw [nthL_lt hi]; simp [hz]
      rw [e3, List.getElem?_append_left hu, List.getElem?_eq_getElem hu, e2]
      exact ⟨a2, c2, rfl, hI⟩
    · have hy : i - z.length < y.length := by simp at hi; omega
      have hu : i - us.length < us2.length := by rw [h2.len, h1.len]; exact hy
      obtain ⟨a2, c2, e2, hI, _⟩ := (h2.own (i - us.length) us2[i - us.length] (y[i - z.length]) (by simp [hu]) (by rw [h1.len]; simp [hy])).ints
      have e3 : nthL (z ++ y) i = y[i - z.length] := by rw [nthL_lt hi, List.getElem_append_right (by omega)]
      rw [e3, List.getElem?_append_right (by rw [h1.len]; omega), List.getElem?_eq_getElem hu, e2]
      exact ⟨a2, c2, rfl, hI⟩

theorem RowsOwn.cat {W : World} {B M : Nat} {us us2 : List Value} {z y : List (List Int)} (h1 : RowsOwn W B us z) (h2 : RowsOwn W M us2 y) (hB : B ≤ M) (hlt : ∀ u ∈ us, ∀ b, u.ownBlock = some b → b < M) : RowsOwn W B (us ++ us2) (z ++ y) := by
  refine ⟨by simp [h1.len, h2.len], fun i u zs e1 e2 => ?_, ?_⟩
  · by_cases hi : i < us.length
    · rw [List.getElem?_append_left hi] at e1
      rw [List.getElem?_append_left (by rw [← h1.len]; exact hi)] at e2
      exact h1.own i u zs e1 e2
    · rw [List.getElem?_append_right (by omega)] at e1
      rw [List.getElem?_append_right (by rw [← h1.len]; omega), ← h1.len] at e2
      exact (h2.own _ u zs e1 e2).mono hB
  · refine List.pairwise_append.2 ⟨h1.sep, h2.sep, fun u1 hu1 u2 hu2 b b' e1 e2 => ?_⟩
    obtain ⟨i, hi, rfl⟩ := List.mem_iff_getElem.1 hu2
    have h3 := (h2.own i us2[i] (y[i]'(by rw [← h2.len]; exact hi)) (by simp [hi]) (by simp)).lt e2
    have := hlt u1 hu1 b e1
    omega
/-- What two matrices one over the other give. -/
noncomputable def skSel {α : Type} (p c : Int) (z : List (List Int)) (q d : Int) (y : List (List Int)) (bad rng lim ok : α) : α :=
  if tell (MatOk p c z ∧ MatOk q d y) = true then (if p = q ∧ c = d then (if z.length + y.length ≤ 20 then ok else lim) else rng) else bad
theorem sk_bad {α : Type} {p c q d : Int} {z y : List (List Int)} (h : ¬ (MatOk p c z ∧ MatOk q d y)) (b r l o : α) : skSel p c z q d y b r l o = b := by unfold skSel; rw [tell_false h]; rfl
theorem sk_rng {α : Type} {p c q d : Int} {z y : List (List Int)} (h : MatOk p c z ∧ MatOk q d y) (h2 : ¬ (p = q ∧ c = d)) (b r l o : α) : skSel p c z q d y b r l o = r := by unfold skSel; rw [tell_true h, if_pos rfl, if_neg h2]
theorem sk_lim {α : Type} {p c q d : Int} {z y : List (List Int)} (h : MatOk p c z ∧ MatOk q d y) (h2 : p = q ∧ c = d) (h3 : ¬ z.length + y.length ≤ 20) (b r l o : α) : skSel p c z q d y b r l o = l := by unfold skSel; rw [tell_true h, if_pos rfl, if_pos h2, if_neg h3]
theorem sk_ok {α : Type} {p c q d : Int} {z y : List (List Int)} (h : MatOk p c z ∧ MatOk q d y) (h2 : p = q ∧ c = d) (h3 : z.length + y.length ≤ 20) (b r l o : α) : skSel p c z q d y b r l o = o := by unfold skSel; rw [tell_true h, if_pos rfl, if_pos h2, if_pos h3]
theorem mat_small3 {p c : Int} {z : List (List Int)} (h : MatOk p c z) : Small2 z := ⟨by have := h.2.2.1; omega, fun r hr => by have := (h.2.2.2 r hr).1; have := h.2.1.2; omega⟩
theorem nthL_cat (z y : List (List Int)) {r : Nat} (h : r < (z ++ y).length) : nthL (z ++ y) r = if r < z.length then nthL z r else nthL y (r - z.length) := by
  split
  · next hz => rw [nthL_lt h, nthL_lt hz]; simp [hz]
  · next hz => rw [nthL_lt h, nthL_lt (show r - z.length < y.length by simp at h; omega), List.getElem_append_right (by omega)]
theorem mat_cat {p c : Int} {z y : List (List Int)} (h1 : MatOk p c z) (h2 : MatOk p c y) : MatOk p c (z ++ y) ↔ z.length + y.length ≤ 20 := by
  refine ⟨fun h => by have := h.2.2.1; simpa using this, fun h => ⟨h1.1, h1.2.1, by simpa using h, fun r hr => ?_⟩⟩
  rw [nthL_cat z y hr]
  split
  · next hz => exact h1.2.2.2 r hz
  · next hz => exact h2.2.2.2 _ (by simp at hr; omega)
theorem small_cat {p c q d : Int} {z y : List (List Int)} (h1 : MatOk p c z) (h2 : MatOk q d y) : Small2 (z ++ y) := by
  refine ⟨by have := h1.2.2.1; have := h2.2.2.1; simp; omega, fun r hr => ?_⟩
  rw [nthL_cat z y hr]
  split
  · next hz => exact (mat_small3 h1).2 r hz
  · next hz => exact (mat_small3 h2).2 _ (by simp at hr; omega)
theorem sk_small (p c : Int) (z : List (List Int)) (q d : Int) (y : List (List Int)) : Small2 (skSel p c z q d y [] [] [] (z ++ y)) := by
  have h0 : Small2 [] := ⟨by simp, fun r hr => absurd hr (Nat.not_lt_zero _)⟩
  unfold skSel
  split
  · next h =>
    split
    · split
      · exact small_cat (of_tell h).1 (of_tell h).2
      · exact h0
    · exact h0
  · exact h0

end Go.Proofs.Ytpifgapogbbcnaa

/- The laws' marks on slices of slices that a call has made: markInt64SS, heldInt64SS, markFamily, heldFamily, eqFamily. -/
import Derived.Test.YtnebkhelobpkpaaDoorMark2
import Derived.Test.YtnebkhelobpkpaaDoorRrows
import Derived.Test.YtnebkhelobpkpaaDoorGwA
namespace Go.Proofs.YtnebkhelobpkpaaDoor
open Go.RowKit Go.Deep
set_option linter.unusedVariables false

/-- Slices of slices that a call has made. -/
structure Own (W : World) (base : Nat) (v : Value) (us : List Value) (zss : List (List Int)) : Prop where
  row : W.ownsRow base 26 1 v zss.length us
  rows : RowsOwn W base us zss
theorem Own.step {W W' : World} {base : Nat} {v : Value} {us : List Value} {zss : List (List Int)} (h : Own W base v us zss) (hb : Below W.heap.size W W') : Own W' base v us zss := ⟨row_step h.row hb, h.rows.map fun _ _ k => k.step hb⟩
theorem Own.form {W : World} {base : Nat} {v : Value} {us : List Value} {zss : List (List Int)} (h : Own W base v us zss) : ∃ a c, v = .slice a zss.length c := rowForm h.row
theorem Own.rows2 {W : World} {base : Nat} {v : Value} {us : List Value} {zss : List (List Int)} (h : Own W base v us zss) : ∃ a c, v = .slice a zss.length c ∧ Rows2 W a zss := by
  rcases h.row.2 with ⟨hv, hn⟩ | ⟨g, cap, cur, hv, hb, hg, hnc, hcm, hcs, htake⟩
  · exact ⟨none, 0, by rw [hv, hn], .inl (List.eq_nil_of_length_eq_zero hn)⟩
  · have hr := h.row
    subst hv
    refine ⟨_, _, rfl, .inr ⟨g, 0, rfl, fun i hi => ?_⟩⟩
    have hi' : i < us.length := by rw [h.rows.len]; exact hi
    obtain ⟨a, c, e, hI, _⟩ := (h.rows.own i us[i] zss[i] (by simp [hi']) (by simp [hi])).ints
    rw [nthL_lt hi]
    exact ⟨a, c, by rw [Nat.zero_add, World.ownsRow.cellAt hr i (by omega), List.getElem?_eq_getElem hi', e], hI⟩
theorem Own.touch {lo hi : Nat} {w w' : World} (h : Touch lo hi w w') {base : Nat} {v : Value} {us : List Value} {zss : List (List Int)} (k : Own w base v us zss) (hb : hi ≤ base) : Own w' base v us zss := by
  refine ⟨⟨k.row.1, ?_⟩, k.rows.map fun _ _ q => h.own q hb⟩
  rcases k.row.2 with h2 | ⟨g, cap, cur, hv, hg, hh, r⟩
  · exact .inl h2
  · exact .inr ⟨g, cap, cur, hv, hg, by rw [h.block g (Array.getElem?_eq_some_iff.1 hh).1 (.inr (by omega))]; exact hh, r⟩

/-- Rows that have been marked, from k on. -/
def marked (k : Int) : List (List Int) → List (List Int)
  | [] => []
  | z :: zs => marks k z.length :: marked (k + z.length) zs
def total : List (List Int) → Int
  | [] => 0
  | z :: zs => z.length + total zs
theorem total_snoc (l : List (List Int)) (z : List Int) : total (l ++ [z]) = total l + z.length := by
  induction l with
  | nil => simp [total]
  | cons x l ih => simp only [List.cons_append, total, ih]; omega
theorem total_nonneg (l : List (List Int)) : 0 ≤ total l := by
  induction l with
  | nil => simp [total]
  | cons x l ih => simp only [total]; omega
theorem marked_snoc (k : Int) (l : List (List Int)) (z : List Int) : marked k (l ++ [z]) = marked k l ++ [marks (k + total l) z.length] := by
  induction l generalizing k with
  | nil => simp [marked, total]
  | cons x l ih => simp only [List.cons_append, marked, ih, total]; rw [Int.add_assoc]
theorem marked_len (k : Int) (l : List (List Int)) : (marked k l).length = l.length := by
  induction l generalizing k with
  | nil => rfl
  | cons x l ih => simp [marked, ih]
theorem marked_nth (k : Int) (l : List (List Int)) (r : Nat) (h : r < l.length) : nthL (marked k l) r = marks (k + total (l.take r)) (nthL l r).length := by
  induction l generalizing k r with
  | nil => simp at h
  | cons x l ih =>
    cases r with
    | zero => simp [marked, nthL, total]
    | succ r =>
      have := ih (k + x.length) r (by simpa using h)
      simp only [marked, List.take_succ_cons, total]
      rw [show nthL (marks k x.length :: marked (k + x.length) l) (r + 1) = nthL (marked (k + x.length) l) r by simp [nthL], show nthL (x :: l) (r + 1) = nthL l r by simp [nthL], this, Int.add_assoc]
theorem total_take {l : List (List Int)} {j : Nat} (h : j < l.length) : total (l.take (j + 1)) = total (l.take j) + (nthL l j).length := by
  rw [List.take_succ_eq_append_getElem h, total_snoc, nthL_lt h]
theorem marked_half (k : Int) (l : List (List Int)) {j : Nat} (h : j < l.length) : (marked k (l.take j) ++ l.drop j).set j (marks (k + total (l.take j)) (nthL l j).length) = marked k (l.take (j + 1)) ++ l.drop (j + 1) := by
  have e : (marked k (l.take j)).length = j := by rw [marked_len, List.length_take]; omega
  rw [List.take_succ_eq_append_getElem h, marked_snoc, List.set_append_right _ _ (by omega), e, Nat.sub_self, List.drop_eq_getElem_cons h, List.set_cons_zero, List.append_assoc, nthL_lt h]
  rfl

theorem RowsOwn.setRow {W W' : World} {base : Nat} {us : List Value} {zss : List (List Int)} {j : Nat} (h : RowsOwn W base us zss) {u0 : Value} (hu0 : us[j]? = some u0) {zs' : List Int} (ho : OwnI W' base u0 zs') (hg : W.grownBy W' u0.ownBlock) : RowsOwn W' base us (zss.set j zs') := by
  obtain ⟨hj, huj⟩ := List.getElem?_eq_some_iff.1 hu0
  subst huj
  refine ⟨by simp [h.len], fun i u zs h1 h2 => ?_, h.sep⟩
  by_cases e : i = j
  · subst e
    rw [List.getElem?_set_self (by rw [← h.len]; exact hj)] at h2
    rw [List.getElem?_eq_getElem hj] at h1
    cases h1; cases h2
    exact ho
  · rw [List.getElem?_set_ne (fun k => e k.symm)] at h2
    have hk := h.own i u zs h1 h2
    refine World.ownsRow.kept hk hg ?_
    cases hb : u.ownBlock with
    | none => exact .inl rfl
    | some b =>
      refine .inr fun e2 => ?_
      obtain ⟨hi, hu⟩ := List.getElem?_eq_some_iff.1 h1
      have hs := List.pairwise_iff_getElem.1 h.sep
      rcases Nat.lt_or_gt_of_ne e with hlt | hlt
      · have := hs i j hi hj hlt b b (by rw [hu]; exact hb) e2.symm
        omega
      · have := hs j i hj hi hlt b b e2.symm (by rw [hu]; exact hb)
        omega

/-- Blocks of other types than numbers stay. -/
def KeepsT (W W' : World) : Prop := ∀ (b : Nat) (vs : Array Value) (t : TypeId) (fr : Nat × Nat), W.heap[b]? = some (Obj.cells vs t fr) → t ≠ 2 → W'.heap[b]? = some (Obj.cells vs t fr)
theorem KeepsT.refl (W : World) : KeepsT W W := fun _ _ _ _ h _ => h
theorem KeepsT.trans {a b c : World} (h : KeepsT a b) (k : KeepsT b c) : KeepsT a c := fun _ _ _ _ h1 h2 => k _ _ _ _ (h _ _ _ _ h1 h2) h2
theorem KeepsT.of_below {a b : World} (h : Below a.heap.size a b) : KeepsT a b := fun _ _ _ _ h1 _ => (h.block _ (Array.getElem?_eq_some_iff.1 h1).1).trans h1
theorem KeepsT.of_grown {a b : World} {base : Nat} {v : Value} {zs : List Int} (h : OwnI a base v zs) (hg : a.grownBy b v.ownBlock) : KeepsT a b := fun q vs t fr h1 h2 => by
  refine (hg.block q (Array.getElem?_eq_some_iff.1 h1).1 (fun e => ?_)).trans h1
  rcases h.2 with ⟨rfl, _⟩ | ⟨g, cap, cur, rfl, _, hgg, _⟩
  · simp [Value.ownBlock] at e
  · simp [Value.ownBlock] at e
    subst e
    rw [hgg] at h1
    cases h1
    exact h2 rfl

/-- What marks such slices. -/
structure MarkedO (W : World) (base : Nat) (v : Value) (us : List Value) (zss : List (List Int)) (k : Int) (e : Ending) (w' : World) : Prop where
  val : e = .returned (.int .i64 (k + total zss))
  own : Own w' base v us (marked k zss)
  below : Below base W w'
  size : W.heap.size ≤ w'.heap.size
  keep : KeepsT W w'

set_option maxRecDepth 100000 in
set_option maxHeartbeats 600000 in
theorem markSSO_any (v : Value) (us : List Value) (zss : List (List Int)) (base : Nat) (k : Int) (w : World) (ho : Own w base v us zss) (hs : Small2 zss) (hk0 : 0 ≤ k) (hk1 : k ≤ 1048576) (hbw : base ≤ w.heap.size) :
    Calls Tryd.prog 41 #[v, .int .i64 k] w (MarkedO w base v us zss k) := by
  obtain ⟨a, c, rfl⟩ := ho.form
  have hl1 : zss.length ≤ 1048576 := hs.1
  have HS := Lib.hid hs
  have HO := Lib.hid ho
  clear hs ho
  go_enter Tryd.func41, Tryd.ntmps41
  go_wp2_with fail
  go_loopw [1, 5] (fun q i wr => ∃ (j : Nat) (u : Int), j ≤ zss.length ∧ i = .int .i64 j ∧ q = .int .i64 u ∧ u = k + total (zss.take j) ∧ 0 ≤ u ∧ u ≤ 1048576 + j * 1048576 ∧ wr.ownsRow base 26 1 (.slice a zss.length c) zss.length us ∧ RowsOwn wr base us (marked k (zss.take j) ++ zss.drop j) ∧ Below base w wr ∧ KeepsT w wr)
    (fun _ i _ => zss.length - (intOf i).toNat)
  case atStart => exact ⟨0, k, Nat.zero_le _, rfl, rfl, by simp [total], hk0, by omega, HO.out.row, by simpa [marked] using HO.out.rows, Below.refl _ _, KeepsT.refl _⟩
  case round =>
    obtain ⟨j, u, hj, rfl, rfl, hu, hu0, hu1, hrow, hrows, hbel, hkt⟩ := hrel
    have HKT := Lib.hid hkt
    clear hkt
    have HU := Lib.hid hu
    have HR := Lib.hid hrow
    have HRS := Lib.hid hrows
    have HB := Lib.hid hbel
    clear hu
    by_cases hlt : j < zss.length
    · have hju : j < us.length := by
        have := hrows.len
        simp only [List.length_append, marked_len, List.length_take, List.length_drop] at this
        omega
      obtain ⟨g, rfl, hc⟩ := row_cell hrow hlt
      obtain ⟨uj, huj⟩ : ∃ uj, us[j]? = some uj := ⟨us[j], List.getElem?_eq_getElem hju⟩
      rw [huj] at hc
      have hown : OwnI wr base uj (nthL zss j) := hrows.own j uj _ huj (by
        rw [List.getElem?_append_right (by rw [marked_len, List.length_take]; exact Nat.min_le_left _ _), marked_len, nthL_lt hlt]
        simp [Nat.min_eq_left (Nat.le_of_lt hlt), hlt])
      obtain ⟨ua, uc, rfl⟩ := hown.form
      have hj0 : (j : Int) < (zss.length : Int) := by omega
      have hlr := HS.out.2 j hlt
      have HT := Lib.hid (total_take hlt)
      have HH := Lib.hid (marked_half k zss hlt)
      have HUJ := Lib.hid huj
      have HOW := Lib.hid hown
      clear hju huj
      clear hown hrow hrows hbel
      go_wp2_with fail
      refine (markInt64S_any _ (nthL zss j) base u wr HOW.out hu0 (by omega) (by omega)).mono ?_
      rintro e w1 ⟨rfl, hown1, hsz1, hgr1⟩
      have H1 := Lib.hid (show w1.ownsRow base 26 1 (.slice (some ⟨g, 0, none⟩) zss.length c) zss.length us from HR.out.kept hgr1 (rows_apart HR.out HOW.out (by decide)))
      have H2 := Lib.hid (show RowsOwn w1 base us (marked k (zss.take (j + 1)) ++ zss.drop (j + 1)) from by
        rw [← HH.out, ← HU.out]
        exact HRS.out.setRow HUJ.out hown1 hgr1)
      have H3 := Lib.hid (show Below base w w1 from HB.out.grown hgr1 (Nat.le_trans hbw HB.out.size) (fun q hq => (HOW.out.lt hq).1))
      have H4 := Lib.hid (HKT.out.trans (KeepsT.of_grown HOW.out hgr1))
      have HU2 := Lib.hid (show u + (nthL zss j).length = k + total (zss.take (j + 1)) by rw [HT.out, HU.out]; omega)
      clear hown1 hsz1 hgr1
      go_wp2_with fail
      go_roundw
      case rel => exact ⟨j + 1, u + (nthL zss j).length, by omega, by go_num, rfl, HU2.out, by omega, by omega, H1.out, H2.out, H3.out, H4.out⟩
      case measure => simp [intOf]; omega
    · have HJ := Lib.hid (show j = zss.length by omega)
      clear hrow hrows hbel
      go_wp2_with fail
      go_ret
      have h1 := HRS.out
      rw [HJ.out, List.take_length, List.drop_length, List.append_nil] at h1
      exact ⟨by rw [HU.out, HJ.out, List.take_length]; rfl, ⟨by rw [marked_len]; exact HR.out, h1⟩, HB.out, HB.out.size, HKT.out⟩

set_option maxRecDepth 100000 in
theorem markFamO_any (h : Int) (v : Value) (us : List Value) (zss : List (List Int)) (base : Nat) (k : Int) (w : World) (ho : Own w base v us zss) (hs : Small2 zss) (hk0 : 0 ≤ k) (hk1 : k ≤ 1048576) (hbw : base ≤ w.heap.size) :
    Calls Tryd.prog 14 #[.agg #[.int .i64 h, v], .int .i64 k] w (MarkedO w base v us zss k) := by
  obtain ⟨a, c, rfl⟩ := ho.form
  have hb1 := (Below.refl w.heap.size w).alloc (Nat.le_refl _) (.cells #[.int .i64 h, .slice a zss.length c] 29)
  have HO := Lib.hid (ho.step hb1)
  have HS := Lib.hid hs
  clear ho hs
  go_enter Tryd.func14, Tryd.ntmps14
  go_wp2_with fail
  have hsz : w.heap.size ≤ (w.alloc (.cells #[.int .i64 h, .slice a zss.length c] 29)).heap.size := by simp
  refine (markSSO_any _ us zss base k _ HO.out HS.out hk0 hk1 (Nat.le_trans hbw hsz)).mono ?_
  rintro e w2 ⟨rfl, ho2, hb2, hz2, hk2⟩
  have HK2 := Lib.hid ((KeepsT.of_below hb1).trans hk2)
  have HO2 := Lib.hid ho2
  have HB2 := Lib.hid ((hb1.mono hbw).trans hb2)
  have HZ := Lib.hid (Nat.le_trans hsz hz2)
  clear ho2 hb2 hz2 hk2 hb1
  go_wp2_with fail
  go_ret
  exact ⟨rfl, HO2.out, HB2.out, HZ.out, HK2.out⟩

end Go.Proofs.YtnebkhelobpkpaaDoor

/- Grids given by a function; an element written into a grid of a call's own. -/
import Derived.Test.YtnebkhelobpkpaaZer
import Derived.OneCell
namespace Go.Proofs.Ytnebkhelobpkpaa
open Go.RowKit Go.Deep
set_option linter.unusedVariables false

/-- m rows of n elements. -/
def tab (m n : Nat) (f : Nat → Nat → Int) : List (List Int) := (List.range m).map fun c => (List.range n).map (f c)
theorem tab_len (m n : Nat) (f : Nat → Nat → Int) : (tab m n f).length = m := by simp [tab]
theorem tab_row (m n : Nat) (f : Nat → Nat → Int) {c : Nat} (h : c < m) : nthL (tab m n f) c = (List.range n).map (f c) := by
  rw [nthL_lt (by rw [tab_len]; exact h)]; simp [tab]
theorem tab_rlen (m n : Nat) (f : Nat → Nat → Int) {c : Nat} (h : c < m) : (nthL (tab m n f) c).length = n := by rw [tab_row m n f h]; simp
theorem tab_at (m n : Nat) (f : Nat → Nat → Int) {c r : Nat} (h : c < m) (hr : r < n) : nth (nthL (tab m n f) c) r = f c r := by
  rw [tab_row m n f h, nth_lt (by simpa using hr)]; simp
theorem tab_ext {m n : Nat} {f g : Nat → Nat → Int} (h : ∀ c r, c < m → r < n → f c r = g c r) : tab m n f = tab m n g := by
  unfold tab
  refine List.map_congr_left fun c hc => List.map_congr_left fun r hr => ?_
  exact h c r (List.mem_range.1 hc) (List.mem_range.1 hr)
theorem tab_of (z : List (List Int)) (n : Nat) (h : ∀ r, r < z.length → (nthL z r).length = n) : z = tab z.length n (fun r c => nth (nthL z r) c) := by
  refine ext_nthL (by rw [tab_len]) fun r hr => ?_
  refine ext_nth (by rw [tab_rlen _ _ _ hr]; exact h r hr) fun c hc => ?_
  rw [tab_at _ _ _ hr (by rw [← h r hr]; exact hc)]
theorem zs_tab (n cn : Nat) : zs n cn = tab n cn (fun _ _ => 0) := by
  unfold zs tab
  refine List.ext_getElem (by simp) fun i h1 h2 => ?_
  simp only [List.getElem_replicate, List.getElem_map]
  exact List.ext_getElem (by simp) fun j h3 h4 => by simp
/-- A function with one value turned. -/
def putAt (f : Nat → Nat → Int) (c r : Nat) (y : Int) : Nat → Nat → Int := fun c' r' => if c' = c ∧ r' = r then y else f c' r'
theorem tab_put (m n : Nat) (f : Nat → Nat → Int) {c : Nat} (r : Nat) (y : Int) (h : c < m) : (tab m n f).set c ((nthL (tab m n f) c).set r y) = tab m n (putAt f c r y) := by
  rw [tab_row m n f h]
  refine List.ext_getElem (by simp [tab]) fun i h1 h2 => ?_
  have hi : i < m := by simpa [tab] using h2
  by_cases e : i = c
  · subst e
    simp only [List.getElem_set_self, tab, List.getElem_map, List.getElem_range]
    refine List.ext_getElem (by simp) fun j h3 h4 => ?_
    by_cases e2 : j = r
    · subst e2; simp [putAt]
    · rw [List.getElem_set_ne (fun q => e2 q.symm)]; simp [putAt, e2]
  · rw [List.getElem_set_ne (fun q => e q.symm)]
    simp only [tab, List.getElem_map, List.getElem_range]
    refine List.map_congr_left fun j _ => ?_
    simp [putAt, e]

theorem numCells_set (p : Int) (zs : List Int) (j : Nat) (y : Int) : ((numCells p zs).set (j * 2) (.int .i64 p)).set (j * 2 + 1) (.int .i64 y) = numCells p (zs.set j y) := by
  induction zs generalizing j with
  | nil => simp [numCells]
  | cons x zs ih =>
    cases j with
    | zero => simp [numCells]
    | succ j =>
      rw [show (j + 1) * 2 = j * 2 + 1 + 1 by omega, show j * 2 + 1 + 1 + 1 = (j * 2 + 1) + 1 + 1 by omega]
      simp only [numCells, List.set_cons_succ, ih]
theorem OwnN.put {w : World} {base g n cap : Nat} {p : Int} {zs : List Int} (h : OwnN w base p (.slice (some ⟨g, 0, none⟩) n cap) zs) (j : Nat) (y : Int) :
    OwnN ((w.setCell ⟨g, j * 2, none⟩ (.int .i64 p)).setCell ⟨g, j * 2 + 1, none⟩ (.int .i64 y)) base p (.slice (some ⟨g, 0, none⟩) n cap) (zs.set j y) := by
  obtain ⟨a', c', e⟩ := rowForm h
  cases e
  have h1 := (World.ownsRow.stored h (j * 2) (.int .i64 p)).1
  have h2 := (World.ownsRow.stored h1 (j * 2 + 1) (.int .i64 y)).1
  unfold OwnN
  rw [← numCells_set, List.length_set]
  exact h2
/-- THE ROW OF A GRID: its slice, its cells. -/
theorem OwnG.at {W : World} {base : Nat} {p : Int} {v : Value} {us : List Value} {zss : List (List Int)} (h : OwnG W base p v us zss) {r : Nat} (hr : r < zss.length) (hn : 0 < (nthL zss r).length) :
    ∃ b c g cap, v = .slice (some ⟨b, 0, none⟩) zss.length c ∧ us[r]? = some (.slice (some ⟨g, 0, none⟩) (nthL zss r).length cap) ∧ base ≤ b ∧ base ≤ g ∧ b < W.heap.size ∧ g < W.heap.size ∧ W.cell? ⟨b, r, none⟩ = some (.slice (some ⟨g, 0, none⟩) (nthL zss r).length cap) ∧
      (∀ j, j < (nthL zss r).length → W.cell? ⟨g, j * 2, none⟩ = some (.int .i64 p) ∧ W.cell? ⟨g, j * 2 + 1, none⟩ = some (.int .i64 (nth (nthL zss r) j))) ∧ (∀ j, W.frozen? ⟨g, j, none⟩ = false) ∧
      OwnN W base p (.slice (some ⟨g, 0, none⟩) (nthL zss r).length cap) (nthL zss r) := by
  have hu : r < us.length := by rw [h.rows.len]; exact hr
  have ho := h.rows.own r us[r] (nthL zss r) (by simp [hu]) (by rw [nthL_lt hr]; simp [hr])
  rcases h.row.2 with ⟨_, hv⟩ | ⟨b, c, cur, hv, hb, _⟩
  · omega
  subst hv
  obtain ⟨g, cap, e⟩ : ∃ g cap, us[r] = .slice (some ⟨g, 0, none⟩) (nthL zss r).length cap := by
    rcases ho.2 with ⟨_, hv⟩ | ⟨g, cap, cur, hv, _⟩
    · omega
    · exact ⟨g, cap, hv⟩
  rw [e] at ho
  refine ⟨b, c, g, cap, rfl, by rw [List.getElem?_eq_getElem hu, e], hb, (row_lt ho rfl).1, (row_lt h.row rfl).2, (row_lt ho rfl).2, ?_, fun j hj => ⟨?_, ?_⟩, World.ownsRow.frozenAt ho, ho⟩
  · rw [World.ownsRow.cellAt h.row r (by omega), List.getElem?_eq_getElem hu, e]
  · rw [World.ownsRow.cellAt ho _ (by omega), numCells_get0 p _ hj]
  · rw [World.ownsRow.cellAt ho _ (by omega), numCells_get1 p _ hj]
theorem row_two {W : World} {base e size k g o o2 : Nat} {v : Value} {xs : List Value} (h : W.ownsRow base e size v k xs) (hne : v.ownBlock ≠ some g) (u u2 : Value) : ((W.setCell ⟨g, o, none⟩ u).setCell ⟨g, o2, none⟩ u2).ownsRow base e size v k xs :=
  ownsRow_setCell_other (ownsRow_setCell_other h (a := ⟨g, o, none⟩) hne u) (a := ⟨g, o2, none⟩) hne u2
/-- AN ELEMENT IS WRITTEN. -/
theorem OwnG.put {W : World} {base g cap : Nat} {p : Int} {v : Value} {us : List Value} {zss : List (List Int)} (h : OwnG W base p v us zss) {r : Nat} (hr : r < zss.length)
    (hu : us[r]? = some (.slice (some ⟨g, 0, none⟩) (nthL zss r).length cap)) (j : Nat) (y : Int) :
    OwnG ((W.setCell ⟨g, j * 2, none⟩ (.int .i64 p)).setCell ⟨g, j * 2 + 1, none⟩ (.int .i64 y)) base p v us (zss.set r ((nthL zss r).set j y)) := by
  have hur : r < us.length := by rw [h.rows.len]; exact hr
  have ho := h.rows.own r _ (nthL zss r) hu (by rw [nthL_lt hr]; simp [hr])
  refine ⟨?_, ⟨by rw [List.length_set]; exact h.rows.len, fun i u zs h1 h2 => ?_, h.rows.sep⟩⟩
  · rw [List.length_set]
    refine row_two h.row ?_ _ _
    rcases rows_apart h.row ho (by decide) with q | q
    · rw [q]; simp
    · simpa [Value.ownBlock] using q
  · by_cases e : i = r
    · subst e
      rw [hu] at h1; cases h1
      have : zs = (nthL zss i).set j y := by
        rw [List.getElem?_set_self (by exact hr)] at h2
        exact (Option.some.inj h2).symm
      subst this
      exact ho.put j y
    · rw [List.getElem?_set_ne (fun q => e q.symm)] at h2
      have ho2 := h.rows.own i u zs h1 h2
      refine row_two ho2 (fun q => ?_) _ _
      have hi : i < us.length := (List.getElem?_eq_some_iff.1 h1).1
      have hp := List.pairwise_iff_getElem.1 h.rows.sep
      have e1 : us[i] = u := by rw [List.getElem?_eq_getElem hi] at h1; exact Option.some.inj h1
      have e2 : us[r] = .slice (some ⟨g, 0, none⟩) (nthL zss r).length cap := by rw [List.getElem?_eq_getElem hur] at hu; exact Option.some.inj hu
      rcases Nat.lt_or_gt_of_ne e with q2 | q2
      · have := hp i r hi hur q2 g g (by rw [e1]; exact q) (by rw [e2]; rfl); omega
      · have := hp r i hur hi q2 g g (by rw [e2]; rfl) (by rw [e1]; exact q); omega
/-- A box of another type is none of the rows. -/
theorem Boxes.off {W : World} {base B g n cap : Nat} {t : TypeId} {p : Int} {vs : Array Value} {zs : List Int} (h : Boxes W B t vs) (ho : OwnN W base p (.slice (some ⟨g, 0, none⟩) n cap) zs) (ht : t ≠ 126) : B ≠ g := by
  rcases ho.2 with ⟨hv, _⟩ | ⟨g', cap', cur, hv, _, hg, _⟩
  · cases hv
  · cases hv
    intro e
    subst e
    have : W.heap[B]? = _ := h
    rw [hg] at this
    cases this
    exact ht rfl
theorem Boxes.two {W : World} {B g o o2 : Nat} {t : TypeId} {vs : Array Value} (h : Boxes W B t vs) (hne : B ≠ g) {u u2 : Value} : Boxes ((W.setCell ⟨g, o, none⟩ u).setCell ⟨g, o2, none⟩ u2) B t vs := (h.other3 hne).other3 hne
theorem nums_old {w wr : World} {b k : Nat} {p : Int} {z : List (List Int)} {ai : Option Addr} {ci n : Nat} (h : GridR w (some ⟨b, 0, none⟩) p z) (hb : Below w.heap.size w wr) (hk : k < z.length) (hc : wr.cell? ⟨b, k, none⟩ = some (.slice ai n ci)) (hn : Nums wr ai p (nthL z k)) : Nums w ai p (nthL z k) := by
  rcases h with h | ⟨b', e, h⟩
  · rw [h] at hk; exact absurd hk (Nat.not_lt_zero _)
  · cases e
    obtain ⟨a2, c2, h1, h2⟩ := h k hk
    rw [cell_step hb h1] at hc
    cases hc
    exact h2
theorem OwnG.len_eq {W : World} {base n c : Nat} {p : Int} {a : Option Addr} {us : List Value} {zss : List (List Int)} (h : OwnG W base p (.slice a n c) us zss) : n = zss.length := by
  obtain ⟨a', c', e⟩ := h.form
  cases e; rfl
end Go.Proofs.Ytnebkhelobpkpaa

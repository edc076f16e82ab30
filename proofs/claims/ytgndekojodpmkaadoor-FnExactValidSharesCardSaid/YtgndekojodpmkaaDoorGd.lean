/- Grids in memory: rows of elements of two cells; gridOf. -/
import Derived.Test.YtgndekojodpmkaaDoorElt
import Derived.Test.YtgndekojodpmkaaDoorMat
namespace Go.Proofs.YtgndekojodpmkaaDoor
open Go.RowKit Go.Deep
set_option linter.unusedVariables false

theorem Tryd.infoNum : (Tryd.prog.info? 82).map (fun i => (i.zero, i.size, i.bytes)) = some (some (.agg #[.int .i64 0, .int .i64 0]), 2, 16) := by kernel_rfl
theorem Tryd.infoNums : (Tryd.prog.info? 83).map (fun i => (i.zero, i.size, i.bytes)) = some (some (.slice none 0 0), 1, 24) := by kernel_rfl

/-- The cells of a row of elements. -/
def numCells (p : Int) : List Int → List Value
  | [] => []
  | z :: zs => .int .i64 p :: .int .i64 z :: numCells p zs
theorem numCells_len (p : Int) (zs : List Int) : (numCells p zs).length = zs.length * 2 := by
  induction zs with
  | nil => rfl
  | cons z zs ih => simp only [numCells, List.length_cons, ih]; omega
theorem numCells_snoc (p : Int) (zs : List Int) (z : Int) : numCells p (zs ++ [z]) = numCells p zs ++ [.int .i64 p, .int .i64 z] := by
  induction zs with
  | nil => rfl
  | cons x zs ih => simp only [List.cons_append, numCells, ih]
theorem numCells_get0 (p : Int) (zs : List Int) {i : Nat} (h : i < zs.length) : (numCells p zs)[i * 2]? = some (.int .i64 p) := by
  induction zs generalizing i with
  | nil => simp at h
  | cons x zs ih =>
    cases i with
    | zero => rfl
    | succ i =>
      rw [show (i + 1) * 2 = i * 2 + 1 + 1 by omega]
      simp only [numCells, List.getElem?_cons_succ]
      exact ih (by simpa using h)
theorem numCells_get1 (p : Int) (zs : List Int) {i : Nat} (h : i < zs.length) : (numCells p zs)[i * 2 + 1]? = some (.int .i64 (nth zs i)) := by
  induction zs generalizing i with
  | nil => simp at h
  | cons x zs ih =>
    cases i with
    | zero => rfl
    | succ i =>
      rw [show (i + 1) * 2 + 1 = (i * 2 + 1) + 1 + 1 by omega]
      simp only [numCells, List.getElem?_cons_succ]
      exact ih (by simpa using h)
/-- A row of elements that a call has made. -/
def OwnN (w : World) (base : Nat) (p : Int) (v : Value) (zs : List Int) : Prop := w.ownsRow base 82 2 v zs.length (numCells p zs)
theorem OwnN.nil (w : World) (base : Nat) (p : Int) : OwnN w base p (.slice none 0 0) [] := World.ownsRow_nil _ _ _ _
theorem OwnN.mono {w : World} {base base' : Nat} {p : Int} {v : Value} {zs : List Int} (h : OwnN w base p v zs) (hb : base' ≤ base) : OwnN w base' p v zs := ownsRow_mono h hb
theorem OwnN.step {w w' : World} {base : Nat} {p : Int} {v : Value} {zs : List Int} (h : OwnN w base p v zs) (hb : Below w.heap.size w w') : OwnN w' base p v zs := row_step h hb
/-- A row of elements, to be read. -/
def Nums (w : World) (a : Option Addr) (p : Int) (zs : List Int) : Prop :=
  zs = [] ∨ ∃ b, a = some ⟨b, 0, none⟩ ∧ ∀ i, i < zs.length → w.cell? ⟨b, i * 2, none⟩ = some (.int .i64 p) ∧ w.cell? ⟨b, i * 2 + 1, none⟩ = some (.int .i64 (nth zs i))
theorem Nums.step {w w' : World} {a : Option Addr} {p : Int} {zs : List Int} (hb : Below w.heap.size w w') (h : Nums w a p zs) : Nums w' a p zs := by
  rcases h with h | ⟨b, ha, hc⟩
  · exact .inl h
  · exact .inr ⟨b, ha, fun i hi => ⟨cell_step hb (hc i hi).1, cell_step hb (hc i hi).2⟩⟩
theorem Nums.below {B : Nat} {w w' : World} {a : Option Addr} {p : Int} {zs : List Int} (h : Nums w a p zs) (hb : Below B w w') (hB : w.heap.size ≤ B) : Nums w' a p zs := h.step (hb.mono hB)
theorem OwnN.nums {w : World} {base : Nat} {p : Int} {v : Value} {zs : List Int} (h : OwnN w base p v zs) : ∃ a c, v = .slice a zs.length c ∧ Nums w a p zs := by
  rcases h.2 with ⟨hv, hn⟩ | ⟨g, cap, cur, hv, _⟩
  · exact ⟨none, 0, by rw [hv, hn], .inl (List.eq_nil_of_length_eq_zero hn)⟩
  · subst hv
    exact ⟨_, _, rfl, .inr ⟨g, rfl, fun i hi => ⟨by rw [World.ownsRow.cellAt h _ (by omega), numCells_get0 p zs hi], by rw [World.ownsRow.cellAt h _ (by omega), numCells_get1 p zs hi]⟩⟩⟩
/-- Rows of elements, each in a block of its own. -/
structure RowsN (W : World) (base : Nat) (p : Int) (us : List Value) (zss : List (List Int)) : Prop where
  len : us.length = zss.length
  own : ∀ (i : Nat) (u : Value) (zs : List Int), us[i]? = some u → zss[i]? = some zs → OwnN W base p u zs
  sep : us.Pairwise fun u u' => ∀ b b', u.ownBlock = some b → u'.ownBlock = some b' → b < b'
theorem RowsN.nil (W : World) (base : Nat) (p : Int) : RowsN W base p [] [] := ⟨rfl, fun i u zs h => by simp at h, List.Pairwise.nil⟩
theorem RowsN.map {W W' : World} {base : Nat} {p : Int} {us : List Value} {zss : List (List Int)} (h : RowsN W base p us zss) (hk : ∀ u zs, OwnN W base p u zs → OwnN W' base p u zs) : RowsN W' base p us zss :=
  ⟨h.len, fun i u zs h1 h2 => hk u zs (h.own i u zs h1 h2), h.sep⟩
theorem RowsN.mono {W : World} {base base' : Nat} {p : Int} {us : List Value} {zss : List (List Int)} (h : RowsN W base p us zss) (hb : base' ≤ base) : RowsN W base' p us zss :=
  ⟨h.len, fun i u zs h1 h2 => (h.own i u zs h1 h2).mono hb, h.sep⟩
theorem row_lt {W : World} {base b e size n : Nat} {u : Value} {xs : List Value} (h : W.ownsRow base e size u n xs) (hb : u.ownBlock = some b) : base ≤ b ∧ b < W.heap.size := World.ownsRow.lt h b hb
theorem RowsN.snoc {W W' : World} {base : Nat} {p : Int} {us : List Value} {zss : List (List Int)} {u : Value} {zs : List Int} (h : RowsN W base p us zss) (hb : Below W.heap.size W W') (hu : OwnN W' W.heap.size p u zs) (hB : base ≤ W.heap.size) :
    RowsN W' base p (us ++ [u]) (zss ++ [zs]) := by
  refine ⟨by simp [h.len], fun i u1 zs1 h1 h2 => ?_, ?_⟩
  · by_cases hi : i < us.length
    · rw [List.getElem?_append_left hi] at h1
      rw [List.getElem?_append_left (by rw [← h.len]; exact hi)] at h2
      exact (h.own i u1 zs1 h1 h2).step hb
    · rw [List.getElem?_append_right (by omega)] at h1
      rw [List.getElem?_append_right (by rw [← h.len]; omega), ← h.len] at h2
      have h0 : i - us.length = 0 := by
        have := (List.getElem?_eq_some_iff.1 h1).1
        simp at this; omega
      rw [h0] at h1 h2
      simp at h1 h2
      subst h1; subst h2
      exact hu.mono hB
  · refine List.pairwise_append.2 ⟨h.sep, by simp, fun u1 hu1 u2 hu2 b b' e1 e2 => ?_⟩
    simp at hu2; subst hu2
    obtain ⟨i, hi, rfl⟩ := List.mem_iff_getElem.1 hu1
    have h3 := row_lt (h.own i us[i] (zss[i]'(by rw [← h.len]; exact hi)) (by simp [hi]) (by simp)) e1
    have h4 := row_lt hu e2
    omega
/-- Rows of elements that a call has made. -/
structure OwnG (W : World) (base : Nat) (p : Int) (v : Value) (us : List Value) (zss : List (List Int)) : Prop where
  row : W.ownsRow base 83 1 v zss.length us
  rows : RowsN W base p us zss
theorem OwnG.mono {W : World} {base base' : Nat} {p : Int} {v : Value} {us : List Value} {zss : List (List Int)} (h : OwnG W base p v us zss) (hb : base' ≤ base) : OwnG W base' p v us zss := ⟨ownsRow_mono h.row hb, h.rows.mono hb⟩
theorem OwnG.step {W W' : World} {base : Nat} {p : Int} {v : Value} {us : List Value} {zss : List (List Int)} (h : OwnG W base p v us zss) (hb : Below W.heap.size W W') : OwnG W' base p v us zss := ⟨row_step h.row hb, h.rows.map fun _ _ k => k.step hb⟩
theorem OwnG.nil (W : World) (base : Nat) (p : Int) : OwnG W base p (.slice none 0 0) [] [] := ⟨World.ownsRow_nil _ _ _ _, RowsN.nil _ _ _⟩
theorem OwnG.form {W : World} {base : Nat} {p : Int} {v : Value} {us : List Value} {zss : List (List Int)} (h : OwnG W base p v us zss) : ∃ a c, v = .slice a zss.length c := rowForm h.row
/-- Rows of elements, to be read. -/
def GridR (W : World) (a : Option Addr) (p : Int) (zss : List (List Int)) : Prop :=
  zss = [] ∨ ∃ b, a = some ⟨b, 0, none⟩ ∧ ∀ i, i < zss.length → ∃ (ai : Option Addr) (ci : Nat), W.cell? ⟨b, i, none⟩ = some (.slice ai (nthL zss i).length ci) ∧ Nums W ai p (nthL zss i)
theorem GridR.step {W W' : World} {a : Option Addr} {p : Int} {zss : List (List Int)} (hb : Below W.heap.size W W') (h : GridR W a p zss) : GridR W' a p zss := by
  rcases h with h | ⟨b, ha, hc⟩
  · exact .inl h
  · refine .inr ⟨b, ha, fun i hi => ?_⟩
    obtain ⟨ai, ci, h1, h2⟩ := hc i hi
    exact ⟨ai, ci, cell_step hb h1, h2.step hb⟩
theorem GridR.below {B : Nat} {W W' : World} {a : Option Addr} {p : Int} {zss : List (List Int)} (h : GridR W a p zss) (hb : Below B W W') (hB : W.heap.size ≤ B) : GridR W' a p zss := h.step (hb.mono hB)
theorem OwnG.grid {W : World} {base : Nat} {p : Int} {v : Value} {us : List Value} {zss : List (List Int)} (h : OwnG W base p v us zss) : ∃ a c, v = .slice a zss.length c ∧ GridR W a p zss := by
  rcases h.row.2 with ⟨hv, hn⟩ | ⟨g, cap, cur, hv, _⟩
  · exact ⟨none, 0, by rw [hv, hn], .inl (List.eq_nil_of_length_eq_zero hn)⟩
  · have hr := h.row
    subst hv
    refine ⟨_, _, rfl, .inr ⟨g, rfl, fun i hi => ?_⟩⟩
    have hi' : i < us.length := by rw [h.rows.len]; exact hi
    obtain ⟨a, c, e, hI⟩ := (h.rows.own i us[i] zss[i] (by simp [hi']) (by simp [hi])).nums
    rw [nthL_lt hi]
    exact ⟨a, c, by rw [World.ownsRow.cellAt hr i (by omega), List.getElem?_eq_getElem hi', e], hI⟩
theorem row_seta {W : World} {base e size k : Nat} {v : Value} {xs : List Value} (h : W.ownsRow base e size v k xs) {p : Addr} (hb : p.block < base) (u : Value) : (W.setCell p u).ownsRow base e size v k xs := by
  refine h.kept ⟨rfl, rfl, rfl, (KeepsWalks.setCell W _ u).size, fun q _ hq => Below.heap_setCell _ _ _ q (fun e => hq (by rw [e]))⟩ (row := some p.block) ?_
  rcases h.2 with ⟨rfl, _⟩ | ⟨g, cap, cur, rfl, hg, _⟩
  · exact .inl rfl
  · refine .inr fun e' => ?_
    obtain rfl : g = p.block := by simpa [Value.ownBlock] using e'
    omega
theorem OwnG.setCell2 {W : World} {base : Nat} {m : Int} {v : Value} {us : List Value} {zss : List (List Int)} (h : OwnG W base m v us zss) {p : Addr} (hp : p.block < base) (u : Value) : OwnG (W.setCell p u) base m v us zss := by
  obtain ⟨b, o, sp⟩ := p
  exact ⟨row_seta h.row hp u, h.rows.map fun _ _ k => row_seta k hp u⟩
theorem cell_two_new (w : World) (x y : Value) (t : TypeId) : ∀ j u, [x, y][j]? = some u → (w.alloc (.cells #[x, y] t)).cell? ((⟨w.heap.size, 0, none⟩ : Addr).add j) = some u := by
  intro j u hj
  match j, hj with
  | 0, hj => simp at hj; subst hj; simp [Addr.add]
  | 1, hj => simp at hj; subst hj; simp [Addr.add]
theorem Boxes.set3 {W : World} {B : Nat} {t : TypeId} {u0 u1 u2 : Value} (h : Boxes W B t #[u0, u1, u2]) (v : Value) : Boxes (W.setCell ⟨B, 0, none⟩ v) B t #[v, u1, u2] := by
  unfold Boxes at h ⊢
  simp [World.setCell, Array.getElem?_modify, h]
theorem row_other {W W' : World} {base e size k base2 e2 size2 k2 : Nat} {v v2 : Value} {xs xs2 : List Value} (h : W.ownsRow base e size v k xs) (h2 : W.ownsRow base2 e2 size2 v2 k2 xs2) (hg : W.grownBy W' v2.ownBlock) (he : e ≠ e2) : W'.ownsRow base e size v k xs := h.kept hg (rows_apart h h2 he)
theorem Boxes.grown {W W' : World} {B : Nat} {t : TypeId} {vs : Array Value} {row : Option Nat} (h : Boxes W B t vs) (hg : W.grownBy W' row) (hne : row ≠ some B) : Boxes W' B t vs := (hg.block B h.lt (fun e => hne e.symm)).trans h
theorem row_ge {W : World} {base B e size n : Nat} {u : Value} {xs : List Value} (h : W.ownsRow base e size u n xs) (hB : B < base) : u.ownBlock ≠ some B := fun e => by have := row_lt h e; omega
theorem take_snoc (l : List (List Int)) {k : Nat} (h : k < l.length) : l.take (k + 1) = l.take k ++ [nthL l k] := by rw [List.take_succ_eq_append_getElem h, nthL_lt h]
theorem take_snoc1 (l : List Int) {k : Nat} (h : k < l.length) : l.take (k + 1) = l.take k ++ [nth l k] := by rw [List.take_succ_eq_append_getElem h, nth_lt h]

end Go.Proofs.YtgndekojodpmkaaDoor

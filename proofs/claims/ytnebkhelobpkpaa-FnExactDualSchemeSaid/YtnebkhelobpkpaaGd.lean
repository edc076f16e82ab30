/- Grids in memory: rows of elements of two cells; gridOf. -/
import Derived.Test.YtnebkhelobpkpaaElt
import Derived.Test.YtnebkhelobpkpaaMat
namespace Go.Proofs.Ytnebkhelobpkpaa
open Go.RowKit Go.Deep
set_option linter.unusedVariables false

theorem Try.infoNum : (Try.prog.info? 126).map (fun i => (i.zero, i.size, i.bytes)) = some (some (.agg #[.int .i64 0, .int .i64 0]), 2, 16) := by kernel_rfl
theorem Try.infoNums : (Try.prog.info? 173).map (fun i => (i.zero, i.size, i.bytes)) = some (some (.slice none 0 0), 1, 24) := by kernel_rfl

/-- The cells of a row of elements. -/
def numCells (p : Int) : List Int → List Value
  | [] => []
  | z :: zs => .int .i64 p :: .int .i64 z :: numCells p zs
theorem numCells_len (p : Int) (zs : List Int) : (numCells p zs).length = zs.length * 2 := by
  induction zs with
  | nil => rfl
  | cons z zs ih => simp only [numCells, List.length_cons, ih]; omega
theorem numCells_snoc (p : Int) (zs : List Int) (z : Int) : numCells p (zs ++ [z]) = numCells p zs ++ [.int .i64 p, .int .i64 z] := by
  induction zs with
  | nil => rfl
  | cons x zs ih => simp only [List.cons_append, numCells, ih]
theorem numCells_get0 (p : Int) (zs : List Int) {i : Nat} (h : i < zs.length) : (numCells p zs)[i * 2]? = some (.int .i64 p) := by
  induction zs generalizing i with
  | nil => simp at h
  | cons x zs ih =>
    cases i with
    | zero => rfl
    | succ i =>
      rw [show (i + 1) * 2 = i * 2 + 1 + 1 by omega]
      simp only [numCells, List.getElem?_cons_succ]
      exact ih (by simpa using h)
theorem numCells_get1 (p : Int) (zs : List Int) {i : Nat} (h : i < zs.length) : (numCells p zs)[i * 2 + 1]? = some (.int .i64 (nth zs i)) := by
  induction zs generalizing i with
  | nil => simp at h
  | cons x zs ih =>
    cases i with
    | zero => rfl
    | succ i =>
      rw [show (i + 1) * 2 + 1 = (i * 2 + 1) + 1 + 1 by omega]
      simp only [numCells, List.getElem?_cons_succ]
      exact ih (by simpa using h)
/-- A row of elements that a call has made. -/
def OwnN (w : World) (base : Nat) (p : Int) (v : Value) (zs : List Int) : Prop := w.ownsRow base 126 2 v zs.length (numCells p zs)
theorem OwnN.nil (w : World) (base : Nat) (p : Int) : OwnN w base p (.slice none 0 0) [] := World.ownsRow_nil _ _ _ _
theorem OwnN.mono {w : World} {base base' : Nat} {p : Int} {v : Value} {zs : List Int} (h : OwnN w base p v zs) (hb : base' ≤ base) : OwnN w base' p v zs := ownsRow_mono h hb
theorem OwnN.step {w w' : World} {base : Nat} {p : Int} {v : Value} {zs : List Int} (h : OwnN w base p v zs) (hb : Below w.heap.size w w') : OwnN w' base p v zs := row_step h hb
/-- A row of elements, to be read. -/
def Nums (w : World) (a : Option Addr) (p : Int) (zs : List Int) : Prop :=
  zs = [] ∨ ∃ b, a = some ⟨b, 0, none⟩ ∧ ∀ i, i < zs.length → w.cell? ⟨b, i * 2, none⟩ = some (.int .i64 p) ∧ w.cell? ⟨b, i * 2 + 1, none⟩ = some (.int .i64 (nth zs i))
theorem Nums.step {w w' : World} {a : Option Addr} {p : Int} {zs : List Int} (hb : Below w.heap.size w w') (h : Nums w a p zs) : Nums w' a p zs := by
  rcases h with h | ⟨b, ha, hc⟩
  · exact .inl h
  · exact .inr ⟨b, ha, fun i hi => ⟨cell_step hb (hc i hi).1, cell_step hb (hc i hi).2⟩⟩
theorem Nums.below {B : Nat} {w w' : World} {a : Option Addr} {p : Int} {zs : List Int} (h : Nums w a p zs) (hb : Below B w w') (hB : w.heap.size ≤ B) : Nums w' a p zs := h.step (hb.mono hB)
theorem OwnN.nums {w : World} {base : Nat} {p : Int} {v : Value} {zs : List Int} (h : OwnN w base p v zs) : ∃ a c, v = .slice a zs.length c ∧ Nums w a p zs := by
  rcases h.2 with ⟨hv, hn⟩ | ⟨g, cap, cur, hv, _⟩
  · exact ⟨none, 0, by rw [hv, hn], .inl (List.eq_nil_of_length_eq_zero hn)⟩
  · subst hv
    exact ⟨_, _, rfl, .inr ⟨g, rfl, fun i hi => ⟨by rw [World.ownsRow.cellAt h _ (by omega), numCells_get0 p zs hi], by rw [World.ownsRow.cellAt h _ (by omega), numCells_get1 p zs hi]⟩⟩⟩
/-- Rows of elements, each in a block of its own. -/
structure RowsN (W : World) (base : Nat) (p : Int) (us : List Value) (zss : List (List Int)) : Prop where
  len : us.length = zss.length
  own : ∀ (i : Nat) (u : Value) (zs : List Int), us[i]? = some u → zss[i]? = some zs → OwnN W base p u zs
  sep : us.Pairwise fun u u' => ∀ b b', u.ownBlock = some b → u'.ownBlock = some b' → b < b'
theorem RowsN.nil (W : World) (base : Nat) (p : Int) : RowsN W base p [] [] := ⟨rfl, fun i u zs h => by simp at h, List.Pairwise.nil⟩
theorem RowsN.map {W W' : World} {base : Nat} {p : Int} {us : List Value} {zss : List (List Int)} (h : RowsN W base p us zss) (hk : ∀ u zs, OwnN W base p u zs → OwnN W' base p u zs) : RowsN W' base p us zss :=
  ⟨h.len, fun i u zs h1 h2 => hk u zs (h.own i u zs h1 h2), h.sep⟩
theorem RowsN.mono {W : World} {base base' : Nat} {p : Int} {us : List Value} {zss : List (List Int)} (h : RowsN W base p us zss) (hb : base' ≤ base) : RowsN W base' p us zss :=
  ⟨h.len, fun i u zs h1 h2 => (h.own i u zs h1 h2).mono hb, h.sep⟩
theorem row_lt {W : World} {base b e size n : Nat} {u : Value} {xs : List Value} (h : W.ownsRow base e size u n xs) (hb : u.ownBlock = some b) : base ≤ b ∧ b < W.heap.size := World.ownsRow.lt h b hb
theorem RowsN.snoc {W W' : World} {base : Nat} {p : Int} {us : List Value} {zss : List (List Int)} {u : Value} {zs : List Int} (h : RowsN W base p us zss) (hb : Below W.heap.size W W') (hu : OwnN W' W.heap.size p u zs) (hB : base ≤ W.heap.size) :
    RowsN W' base p (us ++ [u]) (zss ++ [zs]) := by
  refine ⟨by simp [h.len], fun i u1 zs1 h1 h2 => ?_, ?_⟩
  · by_cases hi : i < us.length
    · rw [List.getElem?_append_left hi] at h1
      rw [List.getElem?_append_left (by rw [← h.len]; exact hi)] at h2
      exact (h.own i u1 zs1 h1 h2).step hb
    · rw [List.getElem?_append_right (by omega)] at h1
      rw [List.getElem?_append_right (by rw [← h.len]; omega), ← h.len] at h2
      have h0 : i - us.length = 0 := by
        have := (List.getElem?_eq_some_iff.1 h1).1
        simp at this; omega
      rw [h0] at h1 h2
      simp at h1 h2
      subst h1; subst h2
      exact hu.mono hB
  · refine List.pairwise_append.2 ⟨h.sep, by simp, fun u1 hu1 u2 hu2 b b' e1 e2 => ?_⟩
    simp at hu2; subst hu2
    obtain ⟨i, hi, rfl⟩ := List.mem_iff_getElem.1 hu1
    have h3 := row_lt (h.own i us[i] (zss[i]'(by rw [← h.len]; exact hi)) (by simp [hi]) (by simp)) e1
    have h4 := row_lt hu e2
    omega
/-- Rows of elements that a call has made. -/
structure OwnG (W : World) (base : Nat) (p : Int) (v : Value) (us : List Value) (zss : List (List Int)) : Prop where
  row : W.ownsRow base 173 1 v zss.length us
  rows : RowsN W base p us zss
theorem OwnG.mono {W : World} {base base' : Nat} {p : Int} {v : Value} {us : List Value} {zss : List (List Int)} (h : OwnG W base p v us zss) (hb : base' ≤ base) : OwnG W base' p v us zss := ⟨ownsRow_mono h.row hb, h.rows.mono hb⟩
theorem OwnG.step {W W' : World} {base : Nat} {p : Int} {v : Value} {us : List Value} {zss : List (List Int)} (h : OwnG W base p v us zss) (hb : Below W.heap.size W W') : OwnG W' base p v us zss := ⟨row_step h.row hb, h.rows.map fun _ _ k => k.step hb⟩
theorem OwnG.nil (W : World) (base : Nat) (p : Int) : OwnG W base p (.slice none 0 0) [] [] := ⟨World.ownsRow_nil _ _ _ _, RowsN.nil _ _ _⟩
theorem OwnG.form {W : World} {base : Nat} {p : Int} {v : Value} {us : List Value} {zss : List (List Int)} (h : OwnG W base p v us zss) : ∃ a c, v = .slice a zss.length c := rowForm h.row
/-- Rows of elements, to be read. -/
def GridR (W : World) (a : Option Addr) (p : Int) (zss : List (List Int)) : Prop :=
  zss = [] ∨ ∃ b, a = some ⟨b, 0, none⟩ ∧ ∀ i, i < zss.length → ∃ (ai : Option Addr) (ci : Nat), W.cell? ⟨b, i, none⟩ = some (.slice ai (nthL zss i).length ci) ∧ Nums W ai p (nthL zss i)
theorem GridR.step {W W' : World} {a : Option Addr} {p : Int} {zss : List (List Int)} (hb : Below W.heap.size W W') (h : GridR W a p zss) : GridR W' a p zss := by
  rcases h with h | ⟨b, ha, hc⟩
  · exact .inl h
  · refine .inr ⟨b, ha, fun i hi => ?_⟩
    obtain ⟨ai, ci, h1, h2⟩ := hc i hi
    exact ⟨ai, ci, cell_step hb h1, h2.step hb⟩
theorem GridR.below {B : Nat} {W W' : World} {a : Option Addr} {p : Int} {zss : List (List Int)} (h : GridR W a p zss) (hb : Below B W W') (hB : W.heap.size ≤ B) : GridR W' a p zss := h.step (hb.mono hB)
theorem OwnG.grid {W : World} {base : Nat} {p : Int} {v : Value} {us : List Value} {zss : List (List Int)} (h : OwnG W base p v us zss) : ∃ a c, v = .slice a zss.length c ∧ GridR W a p zss := by
  rcases h.row.2 with ⟨hv, hn⟩ | ⟨g, cap, cur, hv, _⟩
  · exact ⟨none, 0, by rw [hv, hn], .inl (List.eq_nil_of_length_eq_zero hn)⟩
  · have hr := h.row
    subst hv
    refine ⟨_, _, rfl, .inr ⟨g, rfl, fun i hi => ?_⟩⟩
    have hi' : i < us.length := by rw [h.rows.len]; exact hi
    obtain ⟨a, c, e, hI⟩ := (h.rows.own i us[i] zss[i] (by simp [hi']) (by simp [hi])).nums
    rw [nthL_lt hi]
    exact ⟨a, c, by rw [World.ownsRow.cellAt hr i (by omega), List.getElem?_eq_getElem hi', e], hI⟩
theorem row_seta {W : World} {base e size k : Nat} {v : Value} {xs : List Value} (h : W.ownsRow base e size v k xs) {p : Addr} (hb : p.block < base) (u : Value) : (W.setCell p u).ownsRow base e size v k xs := by
  refine h.kept ⟨rfl, rfl, rfl, (KeepsWalks.setCell W _ u).size, fun q _ hq => Below.heap_setCell _ _ _ q (fun e => hq (by rw [e]))⟩ (row := some p.block) ?_
  rcases h.2 with ⟨rfl, _⟩ | ⟨g, cap, cur, rfl, hg, _⟩
  · exact .inl rfl
  · refine .inr fun e' => ?_
    obtain rfl : g = p.block := by simpa [Value.ownBlock] using e'
    omega
theorem OwnG.setCell2 {W : World} {base : Nat} {m : Int} {v : Value} {us : List Value} {zss : List (List Int)} (h : OwnG W base m v us zss) {p : Addr} (hp : p.block < base) (u : Value) : OwnG (W.setCell p u) base m v us zss := by
  obtain ⟨b, o, sp⟩ := p
  exact ⟨row_seta h.row hp u, h.rows.map fun _ _ k => row_seta k hp u⟩
theorem cell_two_new (w : World) (x y : Value) (t : TypeId) : ∀ j u, [x, y][j]? = some u → (w.alloc (.cells #[x, y] t)).cell? ((⟨w.heap.size, 0, none⟩ : Addr).add j) = some u := by
  intro j u hj
  match j, hj with
  | 0, hj => simp at hj; subst hj; simp [Addr.add]
  | 1, hj => simp at hj; subst hj; simp [Addr.add]
theorem Boxes.set3 {W : World} {B : Nat} {t : TypeId} {u0 u1 u2 : Value} (h : Boxes W B t #[u0, u1, u2]) (v : Value) : Boxes (W.setCell ⟨B, 0, none⟩ v) B t #[v, u1, u2] := by
  unfold Boxes at h ⊢
  simp [World.setCell, Array.getElem?_modify, h]
theorem row_other {W W' : World} {base e size k base2 e2 size2 k2 : Nat} {v v2 : Value} {xs xs2 : List Value} (h : W.ownsRow base e size v k xs) (h2 : W.ownsRow base2 e2 size2 v2 k2 xs2) (hg : W.grownBy W' v2.ownBlock) (he : e ≠ e2) : W'.ownsRow base e size v k xs := h.kept hg (rows_apart h h2 he)
theorem Boxes.grown {W W' : World} {B : Nat} {t : TypeId} {vs : Array Value} {row : Option Nat} (h : Boxes W B t vs) (hg : W.grownBy W' row) (hne : row ≠ some B) : Boxes W' B t vs := (hg.block B h.lt (fun e => hne e.symm)).trans h
theorem row_ge {W : World} {base B e size n : Nat} {u : Value} {xs : List Value} (h : W.ownsRow base e size u n xs) (hB : B < base) : u.ownBlock ≠ some B := fun e => by have := row_lt h e; omega
theorem take_snoc (l : List (List Int)) {k : Nat} (h : k < l.length) : l.take (k + 1) = l.take k ++ [nthL l k] := by rw [List.take_succ_eq_append_getElem h, nthL_lt h]
theorem take_snoc1 (l : List Int) {k : Nat} (h : k < l.length) : l.take (k + 1) = l.take k ++ [nth l k] := by rw [List.take_succ_eq_append_getElem h, nth_lt h]

set_option maxRecDepth 100000 in
set_option maxHeartbeats 2000000 in
theorem gridOf_any (p c : Int) (a : Option Addr) (zss : List (List Int)) (cc : Nat) (w : World) (hr : Rows2 w a zss) (hs : Small2 zss) :
    Calls Try.prog 84 #[.agg #[.int .i64 p, .int .i64 c, .slice a zss.length cc]] w fun e w' => (∃ v us, e = .returned (.agg #[v, .int .i64 p, .int .i64 c]) ∧ OwnG w' w.heap.size p v us zss) ∧ Below w.heap.size w w' := by
  have hl1 : zss.length ≤ 1048576 := hs.1
  have HS := Lib.hid hs
  have HR := Lib.hid hr
  clear hs hr
  obtain ⟨i0, hi, hz0, hz1, hz2⟩ := info_parts Try.infoNum
  obtain ⟨i1, ji, jz0, jz1, jz2⟩ := info_parts Try.infoNums
  go_enter Try.func84, Try.ntmps84
  go_wp2_with fail
  have hb1 := (((Below.refl w.heap.size w).alloc (Nat.le_refl _) (.cells #[.int .i64 p, .int .i64 c, .slice a zss.length cc] 46)).alloc (by simp) (.cells #[.slice none 0 0, .int .i64 0, .int .i64 0] 102)).alloc (by simp; omega) (.cells #[.slice none 0 0, .int .i64 p, .int .i64 c] 102)
  have hx1 : Boxes (((w.alloc (.cells #[.int .i64 p, .int .i64 c, .slice a zss.length cc] 46)).alloc (.cells #[.slice none 0 0, .int .i64 0, .int .i64 0] 102)).alloc (.cells #[.slice none 0 0, .int .i64 p, .int .i64 c] 102)) (w.heap.size + 1) 102 #[.slice none 0 0, .int .i64 0, .int .i64 0] := by
    have := Boxes.step (W := (w.alloc (.cells #[.int .i64 p, .int .i64 c, .slice a zss.length cc] 46)).alloc (.cells #[.slice none 0 0, .int .i64 0, .int .i64 0] 102)) (World.alloc_heap_new (w.alloc (.cells #[.int .i64 p, .int .i64 c, .slice a zss.length cc] 46)) (.cells #[.slice none 0 0, .int .i64 0, .int .i64 0] 102)) ((Below.refl _ _).alloc (Nat.le_refl _) (.cells #[.slice none 0 0, .int .i64 p, .int .i64 c] 102))
    simp only [World.size_alloc] at this
    exact this
  have hx2 : Boxes (((w.alloc (.cells #[.int .i64 p, .int .i64 c, .slice a zss.length cc] 46)).alloc (.cells #[.slice none 0 0, .int .i64 0, .int .i64 0] 102)).alloc (.cells #[.slice none 0 0, .int .i64 p, .int .i64 c] 102)) (w.heap.size + 1 + 1) 102 #[.slice none 0 0, .int .i64 p, .int .i64 c] := by
    have : Boxes (((w.alloc (.cells #[.int .i64 p, .int .i64 c, .slice a zss.length cc] 46)).alloc (.cells #[.slice none 0 0, .int .i64 0, .int .i64 0] 102)).alloc (.cells #[.slice none 0 0, .int .i64 p, .int .i64 c] 102)) ((w.alloc (.cells #[.int .i64 p, .int .i64 c, .slice a zss.length cc] 46)).alloc (.cells #[.slice none 0 0, .int .i64 0, .int .i64 0] 102)).heap.size 102 #[.slice none 0 0, .int .i64 p, .int .i64 c] := World.alloc_heap_new _ _
    simp only [World.size_alloc] at this
    exact this
  generalize ((w.alloc (.cells #[.int .i64 p, .int .i64 c, .slice a zss.length cc] 46)).alloc (.cells #[.slice none 0 0, .int .i64 0, .int .i64 0] 102)).alloc (.cells #[.slice none 0 0, .int .i64 p, .int .i64 c] 102) = w3 at *
  have HB1 := Lib.hid hb1
  have HX1 := Lib.hid hx1
  have HX2 := Lib.hid hx2
  clear hb1 hx1 hx2
  go_loopw [5, 6, 8, 17] (fun q5 q6 q8 i wr => ∃ (k : Nat) (va : Option Addr) (vc : Nat) (us : List Value), k ≤ zss.length ∧ i = .int .i64 k ∧ Boxes wr (w.heap.size + 1) 102 #[.slice none 0 0, .int .i64 0, .int .i64 0] ∧ Boxes wr (w.heap.size + 1 + 1) 102 #[.slice va k vc, .int .i64 p, .int .i64 c] ∧ OwnG wr (w.heap.size + 3) p (.slice va k vc) us (zss.take k) ∧ Below w.heap.size w wr)
    (fun _ _ _ i _ => zss.length - (intOf i).toNat)
  case atStart => exact ⟨0, none, 0, _, Nat.zero_le _, rfl, HX1.out, HX2.out, OwnG.nil _ _ _, HB1.out⟩
  case round =>
    obtain ⟨k, va, vc, us, hk, rfl, hx1, hx2, hog, hb⟩ := hrel
    have c0 := hx2.m0
    have c1 := hx2.m1
    have c2 := hx2.m2
    have f0 := hx2.frozen 0
    have hlt2 := hx2.lt
    have hlt1 := hx1.lt
    have D := Lib.hid (And.intro hx1 (And.intro hx2 (And.intro hog hb)))
    clear hx1 hx2 hog hb HX1 HX2 HB1
    obtain ⟨wo, rfl⟩ : ∃ wo : World, wo = wr := ⟨_, rfl⟩
    by_cases hlt : k < zss.length
    · rcases HR.out.below D.out.2.2.2 (Nat.le_refl _) with h | ⟨b, o, rfl, hc⟩
      · rw [h] at hlt; exact absurd hlt (Nat.not_lt_zero _)
      obtain ⟨ai, ci, hcell, hints⟩ := hc k hlt
      have hi0 : (k : Int) < (zss.length : Int) := by omega
      have hlr := HS.out.2 k hlt
      have HT := Lib.hid (take_snoc zss hlt)
      generalize nthL zss k = row at hcell hints hlr HT
      have HI := Lib.hid hints
      clear hc hints
      go_wp2_with (at_make; refine wpList_make_own _ rfl _ _ 173 rfl wo.heap.size 126 i0 (.agg #[.int .i64 0, .int .i64 0]) 2 Try.underlying173 hi hz0 hz1 _ _ _ row.length rfl rfl rfl (by rw [hz2]; omega) (by unfold maxLen; omega) (Nat.le_refl _) ?_; intro w4 hown hgrow)
      have hb4 := (Below.refl wo.heap.size wo).grown hgrow (Nat.le_refl _) (fun q hq => by cases hq)
      have HOW := Lib.hid (show OwnN w4 wo.heap.size p (.slice (some ⟨wo.heap.size, 0, none⟩) 0 row.length) (row.take 0) from hown)
      have HB4 := Lib.hid hb4
      clear hown hgrow hb4
      generalize (Value.slice (some ⟨wo.heap.size, 0, none⟩) 0 row.length) = r0 at *
      go_loopw [6, 8, 26] (fun q6 q8 i wi => ∃ (j : Nat), j ≤ row.length ∧ i = .int .i64 j ∧ OwnN wi wo.heap.size p q6 (row.take j) ∧ Below wo.heap.size wo wi)
        (fun _ _ i _ => row.length - (intOf i).toNat)
      case atStart => exact ⟨0, Nat.zero_le _, rfl, HOW.out, HB4.out⟩
      case round =>
        obtain ⟨j, hj, rfl, ho, hb⟩ := hrel
        have hx2 := D.out.2.1.step hb
        have d1 := hx2.m1
        have hli := hx2.lt
        have hsz := hb.size
        have HO := Lib.hid ho
        have HB := Lib.hid hb
        clear ho hb hx2 HOW HB4
        by_cases hltj : j < row.length
        · rcases HI.out.below HB.out (Nat.le_refl _) with h | ⟨b2, o2, rfl, hc⟩
          · rw [h] at hltj; exact absurd hltj (Nat.not_lt_zero _)
          have hcj := hc j hltj
          have hj0 : (j : Int) < (row.length : Int) := by omega
          have HT1 := Lib.hid (take_snoc1 row hltj)
          have hlen : (row.take j).length = j := by rw [List.length_take]; omega
          have HLN := Lib.hid hlen
          generalize nth row j = x at hcj HT1
          clear hc hlen
          go_wp2_with fail
          refine (number_any p x _).mono ?_
          rintro e w5 ⟨rfl, hb5⟩
          have HO5 := Lib.hid (HO.out.step hb5)
          have HB5 := Lib.hid (HB.out.trans (hb5.mono hsz))
          have hsz5 := HB5.out.size
          clear hb5
          go_wp2_with (at_builtin; refine wpList_append_own _ rfl _ _ 173 rfl wo.heap.size 126 i0 (.agg #[.int .i64 0, .int .i64 0]) 2 16 Try.underlying173 hi hz0 hz1 hz2 rfl (by decide) _ _ _ rfl (World.ownsRow.alloc HO5.out _) ⟨w5.heap.size, 0, none⟩ 1 1 [.int .i64 p, .int .i64 x] rfl rfl (cell_two_new _ _ _ _) (by simp [Value.oneCell']) (by rw [HLN.out]; unfold maxLen; omega) (by rw [HLN.out]; omega) (by simp; omega) ?_; intro v' w6 hown6 hgrow6 _)
          have H6 := Lib.hid (show OwnN w6 wo.heap.size p v' (row.take (j + 1)) by
            rw [HT1.out]; unfold OwnN; rw [numCells_snoc, List.length_append]; exact hown6)
          have HB6 := Lib.hid ((HB5.out.alloc hsz5 (.cells #[.int .i64 p, .int .i64 x] 126)).grown hgrow6 (by simp; omega) (fun q hq => (row_lt HO5.out hq).1))
          clear hown6 hgrow6
          go_wp2
          go_roundw
          case rel => exact ⟨j + 1, by omega, by go_num, H6.out, HB6.out⟩
          case measure => simp [intOf]; omega
        · have HE := Lib.hid (show j = row.length by omega)
          have hx1 := D.out.1.step HB.out
          have hx2 := D.out.2.1.step HB.out
          have e0 := hx2.m0
          have e1 := hx2.frozen 0
          have HX1 := Lib.hid hx1
          have HX2 := Lib.hid hx2
          have HOG := Lib.hid (D.out.2.2.1.step HB.out)
          have HBW := Lib.hid (D.out.2.2.2.trans (HB.out.mono D.out.2.2.2.size))
          have HRN := Lib.hid (D.out.2.2.1.rows.snoc (W' := wr) (u := u6) (zs := row) HB.out (by have := HO.out; rw [HE.out, List.take_length] at this; exact this) (by have := D.out.2.2.2.size; omega))
          obtain ⟨ua, uc, hu6⟩ := rowForm HO.out
          rw [HE.out, List.take_length] at hu6
          subst hu6
          have hlk : (zss.take k).length = k := by rw [List.length_take]; omega
          have HLK := Lib.hid hlk
          have hszw : w.heap.size + 3 ≤ wr.heap.size := by have := HX2.out.lt; omega
          clear hx1 hx2 hlk HO
          go_wp2_with (at_builtin; refine wpList_append_own _ rfl _ _ 99 rfl (w.heap.size + 3) 173 i1 (.slice none 0 0) 1 24 Try.underlying99 ji jz0 jz1 jz2 rfl (by decide) _ _ us rfl (World.ownsRow.alloc HOG.out.row _) ⟨wr.heap.size, 0, none⟩ 1 1 [(.slice ua row.length uc)] rfl rfl (cell_one_new _ _ _) (by simp [Value.oneCell']) (by rw [HLK.out]; unfold maxLen; omega) (by rw [HLK.out]; omega) (by simp; omega) ?_; intro v' w7 hown7 hgrow7 _; rw [HLK.out] at hown7; obtain ⟨va', vc', rfl⟩ := rowForm hown7; have hxx := (HX2.out.step ((Below.refl _ _).alloc (Nat.le_refl _) (.cells #[(.slice ua row.length uc)] 173))).grown hgrow7 (row_ge HOG.out.row (Nat.lt_succ_self _)); have g0 := hxx.m0; have g1 := hxx.frozen 0)
          have hz7 : w.heap.size + 1 + 1 < w7.heap.size := hxx.lt
          have HX7 := Lib.hid hxx
          have HY7 := Lib.hid ((HX1.out.step ((Below.refl _ _).alloc (Nat.le_refl _) (.cells #[(.slice ua row.length uc)] 173))).grown hgrow7 (row_ge HOG.out.row (by omega)))
          have HO7 := Lib.hid hown7
          have HG7 := Lib.hid hgrow7
          clear hxx hown7 hgrow7
          go_wp2_with fail
          go_roundw
          case rel =>
            refine ⟨k + 1, va', vc', us ++ [(.slice ua row.length uc)], by omega, by go_num, ?_, HX7.out.set3 _, ⟨?_, ?_⟩, ?_⟩
            · exact (Boxes.grown HY7.out (row := some (w.heap.size + 1 + 1)) ⟨rfl, rfl, rfl, (KeepsWalks.setCell w7 _ _).size, fun q _ hq => Below.heap_setCell _ _ _ q (fun e => hq (by rw [e]))⟩ (by simp))
            · have := row_set (u := .slice va' (k + 1) vc') (o := 0) HO7.out (show w.heap.size + 1 + 1 < w.heap.size + 3 by omega)
              rw [HT.out, List.length_append, HLK.out]
              exact this
            · rw [HT.out]
              refine (HRN.out.map (W' := w7) fun u zs ho => row_other (World.ownsRow.alloc ho _) (World.ownsRow.alloc HOG.out.row _) HG7.out (by decide)).map fun u zs ho => row_set ho (by omega) _
            · refine Below.setCell ?_ (by show w.heap.size ≤ w.heap.size + 1 + 1; omega) _
              exact (HBW.out.alloc HBW.out.size _).grown HG7.out (by simp; omega) (fun q hq => by have := row_lt HOG.out.row hq; omega)
          case measure => simp [intOf]; omega
    · have HE := Lib.hid (show k = zss.length by omega)
      have e1 := (D.out.1).m0
      have e2 := (D.out.1).m1
      have e3 := (D.out.1).m2
      have e4 := (D.out.1).frozen 0
      have e5 := (D.out.1).frozen 1
      have e6 := (D.out.1).frozen 2
      go_wp2_with fail
      refine bodyPost_ret (v := .agg #[.slice va k vc, .int .i64 p, .int .i64 c]) (by simp [results, Try.results84, go_sem, e1, e2, e3]) rfl ⟨⟨_, us, rfl, ?_⟩, ?_⟩
      · have := D.out.2.2.1
        rw [show zss.take k = zss by rw [HE.out, List.take_length]] at this
        exact (((this.setCell2 (p := ⟨w.heap.size + 1, 0, none⟩) (by show w.heap.size + 1 < w.heap.size + 3; omega) _).setCell2 (p := ⟨w.heap.size + 1, 1, none⟩) (by show w.heap.size + 1 < w.heap.size + 3; omega) _).setCell2 (p := ⟨w.heap.size + 1, 2, none⟩) (by show w.heap.size + 1 < w.heap.size + 3; omega) _).mono (Nat.le_add_right _ 3)
      · exact ((D.out.2.2.2.setCell (p := ⟨w.heap.size + 1, 0, none⟩) (by show w.heap.size ≤ w.heap.size + 1; omega) _).setCell (p := ⟨w.heap.size + 1, 1, none⟩) (by show w.heap.size ≤ w.heap.size + 1; omega) _).setCell (p := ⟨w.heap.size + 1, 2, none⟩) (by show w.heap.size ≤ w.heap.size + 1; omega) _
end Go.Proofs.Ytnebkhelobpkpaa

/- l03Echelon of the model. -/
import Derived.Test.YtpifgapogbbcnaaEm0
import Derived.Deep.RegionLaw
namespace Go.Proofs.Ytpifgapogbbcnaa
open Go.RowKit Go.Deep Go.Joins Go.ChangeShapes Go.WideShapes Go.ChangeAt
set_option linter.unusedVariables false

theorem steps_fill {p : Int} {n m : Nat} {f0 f : Nat → Nat → Int} {k : Nat} {F : List Nat} (h : Steps p n m f0 k f F) (hl : m ≤ F.length) : ∀ d, k + d ≤ n → Steps p n m f0 (k + d) f F
  | 0, _ => h
  | d + 1, hd => .skip (k + d) f F (steps_fill h hl d (by omega)) (by omega) fun i a b => absurd b (by omega)
/-- Columns as numbers. -/
def colI (F : List Nat) : List Int := F.map fun x => ((x : Nat) : Int)
theorem colI_len (F : List Nat) : (colI F).length = F.length := by simp [colI]
theorem colI_snoc (F : List Nat) (k : Nat) : colI (F ++ [k]) = colI F ++ [((k : Nat) : Int)] := by simp [colI]
/-- The rows' blocks lie below a bound. -/
def LowU (hi : Nat) (us : List Value) : Prop := ∀ (i : Nat) (u : Value) (b : Nat), us[i]? = some u → u.ownBlock = some b → b < hi
theorem LowU.swap {hi q s : Nat} {us : List Value} {uq us' : Value} (h : LowU hi us) (hq : us[q]? = some uq) (hs : us[s]? = some us') : LowU hi ((us.set s uq).set q us') := by
  intro c u b hc hb
  have hql := (List.getElem?_eq_some_iff.1 hq).1
  have hsl := (List.getElem?_eq_some_iff.1 hs).1
  by_cases e1 : c = q
  · subst e1
    rw [List.getElem?_set_self (by simpa using hql)] at hc
    cases hc
    exact h s _ b hs hb
  · rw [List.getElem?_set_ne (fun z => e1 z.symm)] at hc
    by_cases e2 : c = s
    · subst e2
      rw [List.getElem?_set_self hsl] at hc
      cases hc
      exact h q _ b hq hb
    · rw [List.getElem?_set_ne (fun z => e2 z.symm)] at hc
      exact h c u b hc hb
theorem OwnI.far {W W' : World} {hi g : Nat} {v : Value} {zs : List Int} (h : OwnI W hi v zs) (hg : W.grownBy W' (some g)) (hlt : g < hi) : OwnI W' hi v zs := by
  refine ⟨h.1, ?_⟩
  rcases h.2 with h2 | ⟨g2, cap2, cur, hv, hg2, hh, rr⟩
  · exact .inl h2
  · exact .inr ⟨g2, cap2, cur, hv, hg2, by rw [hg.block g2 (Array.getElem?_eq_some_iff.1 hh).1 (by simp; omega)]; exact hh, rr⟩
theorem below_grown1 {B g : Nat} {w W W' : World} (h : Below B w W) (hg : W.grownBy W' (some g)) (hBW : B ≤ W.heap.size) (hB : B ≤ g) : Below B w W' := h.grown hg hBW (fun q hq => by cases hq; exact hB)

/-- The model's reduction in memory. -/
structure EchAt (W : World) (qo base hi : Nat) (p : Int) (m n : Nat) (va : Option Addr) (vc : Nat) (us : List Value) (f : Nat → Nat → Int) (fv : Value) (F : List Nat) : Prop where
  box : Boxes W qo 26 #[.int .i64 p, .int .i64 ((n : Nat) : Int), .slice va m vc]
  rows : OwnM W base va m vc us n f
  low : LowU hi us
  fst : OwnI W hi fv (colI F)
theorem EchAt.step {W W' : World} {qo base hi m n vc : Nat} {p : Int} {va : Option Addr} {us : List Value} {f : Nat → Nat → Int} {fv : Value} {F : List Nat} (h : EchAt W qo base hi p m n va vc us f fv F) (hb : Below W.heap.size W W') : EchAt W' qo base hi p m n va vc us f fv F := ⟨h.box.step hb, h.rows.step hb, h.low, h.fst.step hb⟩
/-- A row has been changed. -/
theorem EchAt.changed {W W' : World} {qo base hi m n vc i gi cap : Nat} {p : Int} {va : Option Addr} {us : List Value} {f f' : Nat → Nat → Int} {fv : Value} {F : List Nat} {r : Nat → Int} (h : EchAt W qo base hi p m n va vc us f fv F) (hu : us[i]? = some (.slice (some ⟨gi, 0, none⟩) n cap)) (ho : OwnI W' base (.slice (some ⟨gi, 0, none⟩) n cap) (rowOf n r)) (hg : W.grownBy W' (some gi)) (e : ∀ c, c < m → ∀ j, j < n → (if c = i then r else f c) j = f' c j) : EchAt W' qo base hi p m n va vc us f' fv F :=
  ⟨KeepT.grown (v := .slice (some ⟨gi, 0, none⟩) n cap) (h.rows.own i _ hu) (by simpa [Value.ownBlock] using hg) (by decide) _ _ h.box, (h.rows.changed hu ho hg).congr e, h.low, h.fst.far hg (h.low i _ gi hu rfl)⟩

/-- Two rows exchanged. -/
theorem EchAt.swap {W : World} {qo base hi m n vc b q s : Nat} {p : Int} {us : List Value} {f : Nat → Nat → Int} {fv uq us' : Value} {F : List Nat} (h : EchAt W qo base hi p m n (some ⟨b, 0, none⟩) vc us f fv F) (hq : us[q]? = some uq) (hs : us[s]? = some us') :
    EchAt ((W.setCell ⟨b, s, none⟩ uq).setCell ⟨b, q, none⟩ us') qo base hi p m n (some ⟨b, 0, none⟩) vc ((us.set s uq).set q us') (swp f q s) fv F := by
  have r1 := (World.ownsRow.stored h.rows.row s uq).1
  obtain ⟨cur, hb0⟩ : ∃ cur, Boxes W b 28 cur := by
    rcases h.rows.row.2 with ⟨hv, _⟩ | ⟨b', c, cur, hv, _, hh, _⟩
    · cases hv
    · cases hv; exact ⟨cur, hh⟩
  obtain ⟨cur1, hb1⟩ : ∃ cur, Boxes (W.setCell ⟨b, s, none⟩ uq) b 28 cur := by
    rcases r1.2 with ⟨hv, _⟩ | ⟨b', c, cur, hv, _, hh, _⟩
    · cases hv
    · cases hv; exact ⟨cur, hh⟩
  exact ⟨((KeepT.set hb0 (by decide) _ _).trans (KeepT.set hb1 (by decide) _ _)) _ _ h.box, h.rows.swap hq hs, h.low.swap hq hs, row_keepT h.fst ((KeepT.set hb0 (by decide) _ _).trans (KeepT.set hb1 (by decide) _ _))⟩
/-- The first of two stores. -/
theorem EchAt.half {W : World} {qo base hi m n vc b s : Nat} {p : Int} {us : List Value} {f : Nat → Nat → Int} {fv uq : Value} {F : List Nat} (h : EchAt W qo base hi p m n (some ⟨b, 0, none⟩) vc us f fv F) (hs : s < m) :
    Boxes (W.setCell ⟨b, s, none⟩ uq) qo 26 #[.int .i64 p, .int .i64 ((n : Nat) : Int), .slice (some ⟨b, 0, none⟩) m vc] ∧ (W.setCell ⟨b, s, none⟩ uq).ownsRow base 28 1 (.slice (some ⟨b, 0, none⟩) m vc) m (us.set s uq) := by
  obtain ⟨cur, hb0⟩ : ∃ cur, Boxes W b 28 cur := by
    rcases h.rows.row.2 with ⟨hv, _⟩ | ⟨b', c, cur, hv, _, hh, _⟩
    · cases hv
    · cases hv; exact ⟨cur, hh⟩
  exact ⟨KeepT.set hb0 (by decide) _ _ _ _ h.box, (World.ownsRow.stored h.rows.row s uq).1⟩
/-- A column is added to the first elements'. -/
theorem EchAt.appended {W W' : World} {qo base hi m n vc k : Nat} {p : Int} {va : Option Addr} {us : List Value} {f : Nat → Nat → Int} {fv v' : Value} {F : List Nat} (h : EchAt W qo base hi p m n va vc us f fv F) (hg : W.grownBy W' fv.ownBlock) (ho : W'.ownsRow hi 2 1 v' ((colI F).length + 1) (vals (colI F) ++ [.int .i64 ((k : Nat) : Int)])) : EchAt W' qo base hi p m n va vc us f v' (F ++ [k]) := by
  have hf : W.ownsRow hi 2 1 fv (colI F).length (vals (colI F)) := h.fst
  refine ⟨KeepT.grown hf hg (by decide) _ _ h.box, ⟨row_keepT h.rows.row (KeepT.grown hf hg (by decide)), h.rows.len, fun i u hu => ?_, h.rows.dis⟩, h.low, ?_⟩
  · have h1 := h.rows.own i u hu
    refine ⟨h1.1, ?_⟩
    rcases h1.2 with h2 | ⟨g2, cap2, cur, hv, hg2, hh, rr⟩
    · exact .inl h2
    · have hlo := h.low i u g2 hu (by rw [hv]; rfl)
      exact .inr ⟨g2, cap2, cur, hv, hg2, by rw [hg.block g2 (Array.getElem?_eq_some_iff.1 hh).1 (fun e => by have := (row_lt hf e.symm).1; omega)]; exact hh, rr⟩
  · unfold OwnI
    rw [colI_snoc, vals_snoc, List.length_append]
    exact ho
theorem rowm_cell {W : World} {base b m vc j : Nat} {us : List Value} (h : W.ownsRow base 28 1 (.slice (some ⟨b, 0, none⟩) m vc) m us) (hj : j < m) : W.cell? ⟨b, j, none⟩ = us[j]? := World.ownsRow.cellAt h j (by omega)
theorem OwnM.cap {W : World} {base m vc n : Nat} {va : Option Addr} {us : List Value} {f : Nat → Nat → Int} (h : OwnM W base va m vc us n f) : m ≤ vc := by
  rcases h.row.2 with ⟨hv, hn⟩ | ⟨g, cap, cur, hv, _, _, hr⟩
  · cases hv; exact Nat.le_refl _
  · cases hv; exact hr.1
theorem OwnM.take {W : World} {base m vc n k : Nat} {va : Option Addr} {us : List Value} {f : Nat → Nat → Int} (h : OwnM W base va m vc us n f) (hk : k ≤ m) : Rows2 W va (tab k n f) := by
  rcases h.row.2 with ⟨hv, hm⟩ | ⟨b, c, cur, hv, _, hh, _⟩
  · obtain rfl : k = 0 := by omega
    exact .inl (by simp [tab])
  · cases hv
    refine .inr ⟨b, 0, rfl, fun i hi => ?_⟩
    rw [tab_len] at hi
    have hu : i < us.length := by rw [h.len]; omega
    have ho := h.own i us[i] (by simp [hu])
    obtain ⟨a1, c1, e⟩ := rowForm ho
    rw [rowOf_len] at e
    rw [e] at ho
    rw [tab_rlen _ _ _ hi]
    refine ⟨a1, c1, ?_, ?_⟩
    · rw [Nat.zero_add, rowm_cell h.row (by omega), List.getElem?_eq_getElem hu, e]
    · rw [rowOf_tab _ _ _ hi]
      exact Ints_of_own ho
theorem KeepT.set3 {t t0 : TypeId} {W : World} {q : Nat} {vs0 : Array Value} (h : Boxes W q t0 vs0) (ht : t ≠ t0) (v0 v1 v2 : Value) : KeepT t W (((W.setCell ⟨q, 0, none⟩ v0).setCell ⟨q, 1, none⟩ v1).setCell ⟨q, 2, none⟩ v2) := fun b vs hb => by
  have hne : b ≠ q := fun e => by
    subst e
    have h1 : W.heap[b]? = _ := h
    have h2 : W.heap[b]? = _ := hb
    rw [h1] at h2
    cases h2
    exact ht rfl
  exact ((hb.other3 hne).other3 hne).other3 hne

theorem OwnM.mono {W : World} {base base' m vc n : Nat} {va : Option Addr} {us : List Value} {f : Nat → Nat → Int} (h : OwnM W base va m vc us n f) (hb : base' ≤ base) : OwnM W base' va m vc us n f := ⟨ownsRow_mono h.row hb, h.len, fun i u hu => ownsRow_mono (h.own i u hu) hb, h.dis⟩
/-- What gives the echelon and the columns of the first elements, in memory of its own. -/
structure GivesEch (W : World) (p : Int) (n : Nat) (z : List (List Int)) (e : Ending) (w' : World) : Prop where
  val : ∃ va vc fa fc us f, e = .returned (.tuple #[.agg #[.int .i64 p, .int .i64 ((n : Nat) : Int), .slice va (echF p n z).length vc], .slice fa (echF p n z).length fc]) ∧ OwnM w' W.heap.size va z.length vc us n f ∧ OwnI w' W.heap.size (.slice fa (echF p n z).length fc) (colI (echF p n z)) ∧ (echF p n z).length ≤ z.length ∧ tab (echF p n z).length n f = echZ p n z
  below : Below W.heap.size W w'

end Go.Proofs.Ytpifgapogbbcnaa

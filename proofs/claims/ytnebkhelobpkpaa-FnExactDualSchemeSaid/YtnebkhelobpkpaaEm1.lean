/- l03Echelon of the model. -/
import Derived.Test.YtnebkhelobpkpaaEm0
import Derived.Deep.RegionLaw
namespace Go.Proofs.Ytnebkhelobpkpaa
open Go.RowKit Go.Deep Go.Joins Go.ChangeShapes Go.WideShapes Go.ChangeAt
set_option linter.unusedVariables false

theorem steps_fill {p : Int} {n m : Nat} {f0 f : Nat → Nat → Int} {k : Nat} {F : List Nat} (h : Steps p n m f0 k f F) (hl : m ≤ F.length) : ∀ d, k + d ≤ n → Steps p n m f0 (k + d) f F
  | 0, _ => h
  | d + 1, hd => .skip (k + d) f F (steps_fill h hl d (by omega)) (by omega) fun i a b => absurd b (by omega)
/-- Columns as numbers. -/
def colI (F : List Nat) : List Int := F.map fun x => ((x : Nat) : Int)
theorem colI_len (F : List Nat) : (colI F).length = F.length := by simp [colI]
theorem colI_snoc (F : List Nat) (k : Nat) : colI (F ++ [k]) = colI F ++ [((k : Nat) : Int)] := by simp [colI]
/-- The rows' blocks lie below a bound. -/
def LowU (hi : Nat) (us : List Value) : Prop := ∀ (i : Nat) (u : Value) (b : Nat), us[i]? = some u → u.ownBlock = some b → b < hi
theorem LowU.swap {hi q s : Nat} {us : List Value} {uq us' : Value} (h : LowU hi us) (hq : us[q]? = some uq) (hs : us[s]? = some us') : LowU hi ((us.set s uq).set q us') := by
  intro c u b hc hb
  have hql := (List.getElem?_eq_some_iff.1 hq).1
  have hsl := (List.getElem?_eq_some_iff.1 hs).1
  by_cases e1 : c = q
  · subst e1
    rw [List.getElem?_set_self (by simpa using hql)] at hc
    cases hc
    exact h s _ b hs hb
  · rw [List.getElem?_set_ne (fun z => e1 z.symm)] at hc
    by_cases e2 : c = s
    · subst e2
      rw [List.getElem?_set_self hsl] at hc
      cases hc
      exact h q _ b hq hb
    · rw [List.getElem?_set_ne (fun z => e2 z.symm)] at hc
      exact h c u b hc hb
theorem OwnI.far {W W' : World} {hi g : Nat} {v : Value} {zs : List Int} (h : OwnI W hi v zs) (hg : W.grownBy W' (some g)) (hlt : g < hi) : OwnI W' hi v zs := by
  refine ⟨h.1, ?_⟩
  rcases h.2 with h2 | ⟨g2, cap2, cur, hv, hg2, hh, rr⟩
  · exact .inl h2
  · exact .inr ⟨g2, cap2, cur, hv, hg2, by rw [hg.block g2 (Array.getElem?_eq_some_iff.1 hh).1 (by simp; omega)]; exact hh, rr⟩
theorem below_grown1 {B g : Nat} {w W W' : World} (h : Below B w W) (hg : W.grownBy W' (some g)) (hBW : B ≤ W.heap.size) (hB : B ≤ g) : Below B w W' := h.grown hg hBW (fun q hq => by cases hq; exact hB)

/-- The model's reduction in memory. -/
structure EchAt (W : World) (qo base hi : Nat) (p : Int) (m n : Nat) (va : Option Addr) (vc : Nat) (us : List Value) (f : Nat → Nat → Int) (fv : Value) (F : List Nat) : Prop where
  box : Boxes W qo 46 #[.int .i64 p, .int .i64 ((n : Nat) : Int), .slice va m vc]
  rows : OwnM W base va m vc us n f
  low : LowU hi us
  fst : OwnI W hi fv (colI F)
theorem EchAt.step {W W' : World} {qo base hi m n vc : Nat} {p : Int} {va : Option Addr} {us : List Value} {f : Nat → Nat → Int} {fv : Value} {F : List Nat} (h : EchAt W qo base hi p m n va vc us f fv F) (hb : Below W.heap.size W W') : EchAt W' qo base hi p m n va vc us f fv F := ⟨h.box.step hb, h.rows.step hb, h.low, h.fst.step hb⟩
/-- A row has been changed. -/
theorem EchAt.changed {W W' : World} {qo base hi m n vc i gi cap : Nat} {p : Int} {va : Option Addr} {us : List Value} {f f' : Nat → Nat → Int} {fv : Value} {F : List Nat} {r : Nat → Int} (h : EchAt W qo base hi p m n va vc us f fv F) (hu : us[i]? = some (.slice (some ⟨gi, 0, none⟩) n cap)) (ho : OwnI W' base (.slice (some ⟨gi, 0, none⟩) n cap) (rowOf n r)) (hg : W.grownBy W' (some gi)) (e : ∀ c, c < m → ∀ j, j < n → (if c = i then r else f c) j = f' c j) : EchAt W' qo base hi p m n va vc us f' fv F :=
  ⟨KeepT.grown (v := .slice (some ⟨gi, 0, none⟩) n cap) (h.rows.own i _ hu) (by simpa [Value.ownBlock] using hg) (by decide) _ _ h.box, (h.rows.changed hu ho hg).congr e, h.low, h.fst.far hg (h.low i _ gi hu rfl)⟩

/-- Two rows exchanged. -/
theorem EchAt.swap {W : World} {qo base hi m n vc b q s : Nat} {p : Int} {us : List Value} {f : Nat → Nat → Int} {fv uq us' : Value} {F : List Nat} (h : EchAt W qo base hi p m n (some ⟨b, 0, none⟩) vc us f fv F) (hq : us[q]? = some uq) (hs : us[s]? = some us') :
    EchAt ((W.setCell ⟨b, s, none⟩ uq).setCell ⟨b, q, none⟩ us') qo base hi p m n (some ⟨b, 0, none⟩) vc ((us.set s uq).set q us') (swp f q s) fv F := by
  have r1 := (World.ownsRow.stored h.rows.row s uq).1
  obtain ⟨cur, hb0⟩ : ∃ cur, Boxes W b 35 cur := by
    rcases h.rows.row.2 with ⟨hv, _⟩ | ⟨b', c, cur, hv, _, hh, _⟩
    · cases hv
    · cases hv; exact ⟨cur, hh⟩
  obtain ⟨cur1, hb1⟩ : ∃ cur, Boxes (W.setCell ⟨b, s, none⟩ uq) b 35 cur := by
    rcases r1.2 with ⟨hv, _⟩ | ⟨b', c, cur, hv, _, hh, _⟩
    · cases hv
    · cases hv; exact ⟨cur, hh⟩
  exact ⟨((KeepT.set hb0 (by decide) _ _).trans (KeepT.set hb1 (by decide) _ _)) _ _ h.box, h.rows.swap hq hs, h.low.swap hq hs, row_keepT h.fst ((KeepT.set hb0 (by decide) _ _).trans (KeepT.set hb1 (by decide) _ _))⟩
/-- The first of two stores. -/
theorem EchAt.half {W : World} {qo base hi m n vc b s : Nat} {p : Int} {us : List Value} {f : Nat → Nat → Int} {fv uq : Value} {F : List Nat} (h : EchAt W qo base hi p m n (some ⟨b, 0, none⟩) vc us f fv F) (hs : s < m) :
    Boxes (W.setCell ⟨b, s, none⟩ uq) qo 46 #[.int .i64 p, .int .i64 ((n : Nat) : Int), .slice (some ⟨b, 0, none⟩) m vc] ∧ (W.setCell ⟨b, s, none⟩ uq).ownsRow base 35 1 (.slice (some ⟨b, 0, none⟩) m vc) m (us.set s uq) := by
  obtain ⟨cur, hb0⟩ : ∃ cur, Boxes W b 35 cur := by
    rcases h.rows.row.2 with ⟨hv, _⟩ | ⟨b', c, cur, hv, _, hh, _⟩
    · cases hv
    · cases hv; exact ⟨cur, hh⟩
  exact ⟨KeepT.set hb0 (by decide) _ _ _ _ h.box, (World.ownsRow.stored h.rows.row s uq).1⟩
/-- A column is added to the first elements'. -/
theorem EchAt.appended {W W' : World} {qo base hi m n vc k : Nat} {p : Int} {va : Option Addr} {us : List Value} {f : Nat → Nat → Int} {fv v' : Value} {F : List Nat} (h : EchAt W qo base hi p m n va vc us f fv F) (hg : W.grownBy W' fv.ownBlock) (ho : W'.ownsRow hi 2 1 v' ((colI F).length + 1) (vals (colI F) ++ [.int .i64 ((k : Nat) : Int)])) : EchAt W' qo base hi p m n va vc us f v' (F ++ [k]) := by
  have hf : W.ownsRow hi 2 1 fv (colI F).length (vals (colI F)) := h.fst
  refine ⟨KeepT.grown hf hg (by decide) _ _ h.box, ⟨row_keepT h.rows.row (KeepT.grown hf hg (by decide)), h.rows.len, fun i u hu => ?_, h.rows.dis⟩, h.low, ?_⟩
  · have h1 := h.rows.own i u hu
    refine ⟨h1.1, ?_⟩
    rcases h1.2 with h2 | ⟨g2, cap2, cur, hv, hg2, hh, rr⟩
    · exact .inl h2
    · have hlo := h.low i u g2 hu (by rw [hv]; rfl)
      exact .inr ⟨g2, cap2, cur, hv, hg2, by rw [hg.block g2 (Array.getElem?_eq_some_iff.1 hh).1 (fun e => by have := (row_lt hf e.symm).1; omega)]; exact hh, rr⟩
  · unfold OwnI
    rw [colI_snoc, vals_snoc, List.length_append]
    exact ho
theorem rowm_cell {W : World} {base b m vc j : Nat} {us : List Value} (h : W.ownsRow base 35 1 (.slice (some ⟨b, 0, none⟩) m vc) m us) (hj : j < m) : W.cell? ⟨b, j, none⟩ = us[j]? := World.ownsRow.cellAt h j (by omega)
theorem OwnM.cap {W : World} {base m vc n : Nat} {va : Option Addr} {us : List Value} {f : Nat → Nat → Int} (h : OwnM W base va m vc us n f) : m ≤ vc := by
  rcases h.row.2 with ⟨hv, hn⟩ | ⟨g, cap, cur, hv, _, _, hr⟩
  · cases hv; exact Nat.le_refl _
  · cases hv; exact hr.1
theorem OwnM.take {W : World} {base m vc n k : Nat} {va : Option Addr} {us : List Value} {f : Nat → Nat → Int} (h : OwnM W base va m vc us n f) (hk : k ≤ m) : Rows2 W va (tab k n f) := by
  rcases h.row.2 with ⟨hv, hm⟩ | ⟨b, c, cur, hv, _, hh, _⟩
  · obtain rfl : k = 0 := by omega
    exact .inl (by simp [tab])
  · cases hv
    refine .inr ⟨b, 0, rfl, fun i hi => ?_⟩
    rw [tab_len] at hi
    have hu : i < us.length := by rw [h.len]; omega
    have ho := h.own i us[i] (by simp [hu])
    obtain ⟨a1, c1, e⟩ := rowForm ho
    rw [rowOf_len] at e
    rw [e] at ho
    rw [tab_rlen _ _ _ hi]
    refine ⟨a1, c1, ?_, ?_⟩
    · rw [Nat.zero_add, rowm_cell h.row (by omega), List.getElem?_eq_getElem hu, e]
    · rw [rowOf_tab _ _ _ hi]
      exact Ints_of_own ho
theorem KeepT.set3 {t t0 : TypeId} {W : World} {q : Nat} {vs0 : Array Value} (h : Boxes W q t0 vs0) (ht : t ≠ t0) (v0 v1 v2 : Value) : KeepT t W (((W.setCell ⟨q, 0, none⟩ v0).setCell ⟨q, 1, none⟩ v1).setCell ⟨q, 2, none⟩ v2) := fun b vs hb => by
  have hne : b ≠ q := fun e => by
    subst e
    have h1 : W.heap[b]? = _ := h
    have h2 : W.heap[b]? = _ := hb
    rw [h1] at h2
    cases h2
    exact ht rfl
  exact ((hb.other3 hne).other3 hne).other3 hne

theorem OwnM.mono {W : World} {base base' m vc n : Nat} {va : Option Addr} {us : List Value} {f : Nat → Nat → Int} (h : OwnM W base va m vc us n f) (hb : base' ≤ base) : OwnM W base' va m vc us n f := ⟨ownsRow_mono h.row hb, h.len, fun i u hu => ownsRow_mono (h.own i u hu) hb, h.dis⟩
/-- What gives the echelon and the columns of the first elements, in memory of its own. -/
structure GivesEch (W : World) (p : Int) (n : Nat) (z : List (List Int)) (e : Ending) (w' : World) : Prop where
  val : ∃ va vc fa fc us f, e = .returned (.tuple #[.agg #[.int .i64 p, .int .i64 ((n : Nat) : Int), .slice va (echF p n z).length vc], .slice fa (echF p n z).length fc]) ∧ OwnM w' W.heap.size va z.length vc us n f ∧ OwnI w' W.heap.size (.slice fa (echF p n z).length fc) (colI (echF p n z)) ∧ (echF p n z).length ≤ z.length ∧ tab (echF p n z).length n f = echZ p n z
  below : Below W.heap.size W w'

set_option maxRecDepth 100000 in
set_option maxHeartbeats 8000000 in
theorem l03Echelon_any (q0 n ca : Nat) (p : Int) (a : Option Addr) (z : List (List Int)) (w : World) (hbx : Boxes w q0 46 #[.int .i64 p, .int .i64 ((n : Nat) : Int), .slice a z.length ca]) (hr : Rows2 w a z) (hg : GoodM p n z) :
    Calls Try.prog 124 #[.pointer (some ⟨q0, 0, none⟩)] w (GivesEch w p n z) := by
  have hp0 := hg.prm.1
  have hp1 := hg.prm.2.1
  have hzm := hg.hm
  have hn1 := hg.hn
  have HG := Lib.hid hg
  have hs : Small2 z := ⟨by have := hg.hm; omega, fun r hr => by have := (hg.rows r hr).1; have := hg.hn; omega⟩
  obtain ⟨i0, ji, jz0, jz1, jz2⟩ := info_parts Try.infoInt64
  have hb1 := al_b w (.cells #[.int .i64 0, .int .i64 0, .slice none 0 0] 46)
  have hxr : Boxes (w.alloc (.cells #[.int .i64 0, .int .i64 0, .slice none 0 0] 46)) w.heap.size 46 #[.int .i64 0, .int .i64 0, .slice none 0 0] := World.alloc_heap_new _ _
  have hs1 : (w.alloc (.cells #[.int .i64 0, .int .i64 0, .slice none 0 0] 46)).heap.size = w.heap.size + 1 := by simp
  have hx1 := hbx.step hb1
  have hr1 := hr.below hb1 (Nat.le_refl _)
  have hq0 := hbx.lt
  clear hbx hr hg
  go_enter Try.func124, Try.ntmps124
  go_wp2_with fail
  generalize w.alloc (.cells #[.int .i64 0, .int .i64 0, .slice none 0 0] 46) = w1 at *
  refine (l03Copy_any q0 p n a z ca w1 hx1 hr1 hs).mono ?_
  rintro e w2 ⟨⟨va, vc, us, rfl, ho⟩, hb2⟩
  have HXR := Lib.hid hxr
  have HX1 := Lib.hid hx1
  have HB1 := Lib.hid hb1
  have hsz2 := hb2.size
  have c0 := (hx1.step hb2).m0
  have hq2 : q0 < w2.heap.size := by omega
  have HOM := Lib.hid (OwnM.of ho fun r hr => (HG.out.rows r hr).1)
  have HLO := Lib.hid (show LowU w2.heap.size us from fun i u b hu hb => by
    have hi : i < z.length := by rw [← ho.rows.len]; exact (List.getElem?_eq_some_iff.1 hu).1
    exact (row_lt (ho.rows.own i u (nthL z i) hu (by rw [nthL_lt hi]; simp [hi])) hb).2)
  have HB2 := Lib.hid hb2
  clear hb2 hs hxr hx1 hb1 hr1 ho
  go_wp2_with fail
  have hb4 := ((Below.refl w2.heap.size w2).alloc (Nat.le_refl _) (.cells #[.int .i64 p, .int .i64 ((n : Nat) : Int), .slice va z.length vc] 46)).alloc (by simp) (.cells #[] 2)
  have hbo : Boxes ((w2.alloc (.cells #[.int .i64 p, .int .i64 ((n : Nat) : Int), .slice va z.length vc] 46)).alloc (.cells #[] 2)) w2.heap.size 46 #[.int .i64 p, .int .i64 ((n : Nat) : Int), .slice va z.length vc] := Boxes.step (World.alloc_heap_new w2 _) (al_b _ _)
  have hof : OwnI ((w2.alloc (.cells #[.int .i64 p, .int .i64 ((n : Nat) : Int), .slice va z.length vc] 46)).alloc (.cells #[] 2)) w2.heap.size (.slice (some ⟨w2.heap.size + 1, 0, none⟩) 0 0) (colI []) := by
    have := World.ownsRow_made (w2.alloc (.cells #[.int .i64 p, .int .i64 ((n : Nat) : Int), .slice va z.length vc] 46)) (base := w2.heap.size) (e := 2) (size := 1) #[] 0 (by simp) (by unfold maxLen; omega) rfl
    simp only [World.size_alloc] at this
    exact this
  generalize (w2.alloc (.cells #[.int .i64 p, .int .i64 ((n : Nat) : Int), .slice va z.length vc] 46)).alloc (.cells #[] 2) = w4 at *
  have HE0 := Lib.hid (show EchAt w4 w2.heap.size w1.heap.size w2.heap.size p z.length n va vc us (fn z) (.slice (some ⟨w2.heap.size + 1, 0, none⟩) 0 0) [] from ⟨hbo, HOM.out.step hb4, HLO.out, hof⟩)
  have HBW := Lib.hid (HB2.out.trans (hb4.mono hsz2))
  clear hb4 hbo hof c0
  generalize (Value.slice (some ⟨w2.heap.size + 1, 0, none⟩) 0 0) = fv0 at *
  go_loopw [6, 7, 8, 9, 10, 11] (fun s6 s7 s8 s9 s10 s11 wr => ∃ (k : Nat) (us : List Value) (f : Nat → Nat → Int) (F : List Nat), k ≤ n ∧ s7 = .int .i64 ((F.length : Nat) : Int) ∧ s8 = .int .i64 k ∧ EchAt wr w2.heap.size w1.heap.size w2.heap.size p z.length n va vc us f s6 F ∧ Steps p n z.length (fn z) k f F ∧ Below w1.heap.size w1 wr)
    (fun _ _ s8 _ _ _ _ => n - (intOf s8).toNat)
  case atStart => exact ⟨0, us, fn z, [], Nat.zero_le _, rfl, rfl, HE0.out, Steps.start, HBW.out⟩
  case round =>
    obtain ⟨k, us2, f, F, hk, rfl, rfl, hea, hst, hb⟩ := hrel
    obtain ⟨fa, fc, hfv⟩ := rowForm hea.fst
    rw [colI_len] at hfv
    subst hfv
    have HE := Lib.hid hea
    have HST := Lib.hid hst
    have HBR := Lib.hid hb
    have c1 := (hb.cell (p := ⟨q0, 1, none⟩) (show q0 < w1.heap.size by omega)).trans HX1.out.m1
    have gl0 : q0 < wr.heap.size := by have := hb.size; omega
    have o2 := hea.box.m2
    have ol := hea.box.lt
    have hszw := hb.size
    clear hea hst hb HE0 HBW
    by_cases hkn : k < n
    case neg =>
      have hk0 : ¬ (k : Int) < (n : Int) := by omega
      have HFIN := Lib.hid (show Steps p n z.length (fn z) n f F by have h := HST.out; rw [show k = n by omega] at h; exact h)
      have HEF := Lib.hid (ech_of HG.out HFIN.out)
      have hlen := HFIN.out.len
      have hcap := Nat.le_trans hlen HE.out.rows.cap
      have hcap0 : (F.length : Int) ≤ (vc : Int) := by omega
      have o0 := HE.out.box.m0
      have o1 := HE.out.box.m1
      have of2 := HE.out.box.frozen 2
      have hxr : Boxes wr w.heap.size 46 #[.int .i64 0, .int .i64 0, .slice none 0 0] := (HBR.out.block w.heap.size (by omega)).trans HXR.out
      have r0 := hxr.m0
      have r1 := hxr.m1
      have r2 := hxr.m2
      have s0 := hxr.frozen 0
      have s1 := hxr.frozen 1
      have s2 := hxr.frozen 2
      have rl := hxr.lt
      have rne : ¬ w.heap.size = w2.heap.size := by omega
      have rne2 : ¬ w2.heap.size = w.heap.size := by omega
      have HX := Lib.hid hxr
      clear hxr
      go_wp2_with fail
      refine bodyPost_ret (v := .tuple #[.agg #[.int .i64 p, .int .i64 ((n : Nat) : Int), .slice va F.length vc], .slice fa F.length fc]) (by simp [results, Try.results124, go_sem, r0, r1, r2]) rfl ?_
      have hx1 : Boxes (wr.setCell ⟨w2.heap.size, 2, none⟩ (.slice va F.length vc)) w.heap.size 46 #[.int .i64 0, .int .i64 0, .slice none 0 0] := HX.out.other3 rne
      have hk : ∀ t, t ≠ 46 → KeepT t wr ((((wr.setCell ⟨w2.heap.size, 2, none⟩ (.slice va F.length vc)).setCell ⟨w.heap.size, 0, none⟩ (.int .i64 p)).setCell ⟨w.heap.size, 1, none⟩ (.int .i64 ((n : Nat) : Int))).setCell ⟨w.heap.size, 2, none⟩ (.slice va F.length vc)) := fun t ht => (KeepT.set HE.out.box ht _ _).trans (KeepT.set3 hx1 ht _ _ _)
      refine ⟨⟨va, vc, fa, fc, us2, f, by rw [← HEF.out.1], (HE.out.rows.keepT (hk _ (by decide)) (hk _ (by decide))).mono (by omega), ?_, by rw [← HEF.out.1]; exact hlen, by rw [← HEF.out.1]; exact HEF.out.2⟩, ?_⟩
      · rw [← HEF.out.1]
        exact ownsRow_mono (row_keepT HE.out.fst (hk _ (by decide))) (by omega)
      · exact ((((HB1.out.trans (HBR.out.mono (by omega))).setCell (p := ⟨w2.heap.size, 2, none⟩) (by show w.heap.size ≤ w2.heap.size; omega) _).setCell (p := ⟨w.heap.size, 0, none⟩) (Nat.le_refl _) _).setCell (p := ⟨w.heap.size, 1, none⟩) (Nat.le_refl _) _).setCell (p := ⟨w.heap.size, 2, none⟩) (Nat.le_refl _) _
    by_cases ham : F.length < z.length
    case neg =>
      have hk0 : (k : Int) < (n : Int) := by omega
      have ha0 : ¬ (F.length : Int) < (z.length : Int) := by omega
      have HFIN := Lib.hid (show Steps p n z.length (fn z) n f F by have h := steps_fill HST.out (by omega) (n - k) (by omega); rw [show k + (n - k) = n by omega] at h; exact h)
      have HEF := Lib.hid (ech_of HG.out HFIN.out)
      have hlen := HFIN.out.len
      have hcap := Nat.le_trans hlen HE.out.rows.cap
      have hcap0 : (F.length : Int) ≤ (vc : Int) := by omega
      have o0 := HE.out.box.m0
      have o1 := HE.out.box.m1
      have of2 := HE.out.box.frozen 2
      have hxr : Boxes wr w.heap.size 46 #[.int .i64 0, .int .i64 0, .slice none 0 0] := (HBR.out.block w.heap.size (by omega)).trans HXR.out
      have r0 := hxr.m0
      have r1 := hxr.m1
      have r2 := hxr.m2
      have s0 := hxr.frozen 0
      have s1 := hxr.frozen 1
      have s2 := hxr.frozen 2
      have rl := hxr.lt
      have rne : ¬ w.heap.size = w2.heap.size := by omega
      have rne2 : ¬ w2.heap.size = w.heap.size := by omega
      have HX := Lib.hid hxr
      clear hxr
      go_wp2_with fail
      refine bodyPost_ret (v := .tuple #[.agg #[.int .i64 p, .int .i64 ((n : Nat) : Int), .slice va F.length vc], .slice fa F.length fc]) (by simp [results, Try.results124, go_sem, r0, r1, r2]) rfl ?_
      have hx1 : Boxes (wr.setCell ⟨w2.heap.size, 2, none⟩ (.slice va F.length vc)) w.heap.size 46 #[.int .i64 0, .int .i64 0, .slice none 0 0] := HX.out.other3 rne
      have hk : ∀ t, t ≠ 46 → KeepT t wr ((((wr.setCell ⟨w2.heap.size, 2, none⟩ (.slice va F.length vc)).setCell ⟨w.heap.size, 0, none⟩ (.int .i64 p)).setCell ⟨w.heap.size, 1, none⟩ (.int .i64 ((n : Nat) : Int))).setCell ⟨w.heap.size, 2, none⟩ (.slice va F.length vc)) := fun t ht => (KeepT.set HE.out.box ht _ _).trans (KeepT.set3 hx1 ht _ _ _)
      refine ⟨⟨va, vc, fa, fc, us2, f, by rw [← HEF.out.1], (HE.out.rows.keepT (hk _ (by decide)) (hk _ (by decide))).mono (by omega), ?_, by rw [← HEF.out.1]; exact hlen, by rw [← HEF.out.1]; exact HEF.out.2⟩, ?_⟩
      · rw [← HEF.out.1]
        exact ownsRow_mono (row_keepT HE.out.fst (hk _ (by decide))) (by omega)
      · exact ((((HB1.out.trans (HBR.out.mono (by omega))).setCell (p := ⟨w2.heap.size, 2, none⟩) (by show w.heap.size ≤ w2.heap.size; omega) _).setCell (p := ⟨w.heap.size, 0, none⟩) (Nat.le_refl _) _).setCell (p := ⟨w.heap.size, 1, none⟩) (Nat.le_refl _) _).setCell (p := ⟨w.heap.size, 2, none⟩) (Nat.le_refl _) _
    have hk0 : (k : Int) < (n : Int) := by omega
    have ha0 : (F.length : Int) < (z.length : Int) := by omega
    obtain ⟨wo, rfl⟩ : ∃ wo : World, wo = wr := ⟨_, rfl⟩
    have HELS := Lib.hid (HST.out.elems HG.out.elem)
    go_wp2_with fail
    go_loopw [9] (fun s9 wr => ∃ r : Nat, F.length ≤ r ∧ r ≤ z.length ∧ s9 = .int .i64 r ∧ wo = wr ∧ ∀ t, F.length ≤ t → t < r → f t k = 0)
      (fun s9 _ => z.length - (intOf s9).toNat)
    case atStart => exact ⟨F.length, Nat.le_refl _, by omega, rfl, rfl, fun t h1 h2 => absurd h2 (by omega)⟩
    case round =>
      obtain ⟨r, hr1, hr2, rfl, rfl, hz⟩ := hrel
      have HZ := Lib.hid hz
      clear hz
      by_cases hrm : r < z.length
      case neg =>
        have hr0 : ¬ (r : Int) < (z.length : Int) := by omega
        have hE : r = z.length := by omega
        subst hE
        go_wp2_with fail
        go_roundw
        case rel => exact ⟨k + 1, us2, f, F, by omega, rfl, by go_num, HE.out, .skip _ _ _ HST.out hkn HZ.out, HBR.out⟩
        case measure => simp [intOf]; omega
      have hr0 : (r : Int) < (z.length : Int) := by omega
      have hrn : ¬ (r : Int) = (z.length : Int) := by omega
      have hrb : ((r : Int) == (z.length : Int)) = false := by simpa using hrn
      obtain ⟨b, gr, capr, rfl, hur, hbb, hbl, hcr, hfz, hor, -⟩ := HE.out.rows.at hrm (by omega)
      have d := hor.at hkn
      have gl := hor.gl.2
      have HUR := Lib.hid hur
      have HOR := Lib.hid hor
      clear hur hor
      by_cases hy : f r k = 0
      · rw [hy] at d
        go_wp2_with fail
        go_roundw
        case rel => exact ⟨r + 1, by omega, by omega, by go_num, trivial, fun t h1 h2 => by
          by_cases e : t = r
          · rw [e]; exact hy
          · exact HZ.out t h1 (by omega)⟩
        case measure => simp [intOf]; omega
      have HYE := Lib.hid (HELS.out r hrm k hkn)
      have HPV := Lib.hid (model_piv HG.out.prm HELS.out hkn hr1 hrm hy HZ.out)
      obtain ⟨y, hyy⟩ : ∃ y, f r k = y := ⟨_, rfl⟩
      rw [hyy] at d hy HYE HPV
      have hyb : (y == 0) = false := by simpa using hy
      have HYY := Lib.hid hyy
      clear hyy
      obtain ⟨b', ga, capa, hva2, hua, -, -, hca, hfa, -, -⟩ := HE.out.rows.at ham (by omega)
      cases hva2
      have HUA := Lib.hid hua
      clear hua
      go_wp2_with fail
      go_region
      all_goals (
        rw [show (wo.setCell ⟨b, r, none⟩ (.slice (some ⟨ga, 0, none⟩) n capa)).drew = wo.drew.setCell ⟨b, r, none⟩ (.slice (some ⟨ga, 0, none⟩) n capa) from rfl]
        have HSW := Lib.hid ((HE.out.step (drew_step wo)).swap HUA.out HUR.out)
        obtain ⟨hbx1, hrow1⟩ := (HE.out.step (drew_step wo)).half (uq := .slice (some ⟨ga, 0, none⟩) n capa) hrm
        have q2 := hbx1.m2
        have ql := hbx1.lt
        have qc : ((wo.drew.setCell ⟨b, r, none⟩ (.slice (some ⟨ga, 0, none⟩) n capa))).cell? ⟨b, F.length, none⟩ = some ((us2.set r (.slice (some ⟨ga, 0, none⟩) n capa))[F.length]'(by rw [List.length_set, HE.out.rows.len]; exact ham)) := by
          rw [rowm_cell hrow1 ham, List.getElem?_eq_getElem]
        have qbl0 := qc
        have qf := World.ownsRow.frozenAt hrow1 F.length
        have qbl := (row_lt hrow1 rfl).2
        have HBD := Lib.hid (((HBR.out.trans ((drew_step wo).mono hszw)).setCell (p := ⟨b, r, none⟩) hbb (.slice (some ⟨ga, 0, none⟩) n capa)).setCell (p := ⟨b, F.length, none⟩) hbb (.slice (some ⟨gr, 0, none⟩) n capr))
        clear hbx1 hrow1
        generalize wo.drew.setCell ⟨b, r, none⟩ (.slice (some ⟨ga, 0, none⟩) n capa) = wA at *
        go_upto_region 15 with fail
        clear q2 ql qc qf qbl
        generalize wA.setCell ⟨b, F.length, none⟩ (.slice (some ⟨gr, 0, none⟩) n capr) = wB at *
        have hlq : F.length < us2.length := by rw [HE.out.rows.len]; exact ham
        have huq : ((us2.set r (.slice (some ⟨ga, 0, none⟩) n capa)).set F.length (.slice (some ⟨gr, 0, none⟩) n capr))[F.length]? = some (.slice (some ⟨gr, 0, none⟩) n capr) := List.getElem?_set_self (by simpa using hlq)
        have hor := HSW.out.rows.own F.length _ huq
        rw [show swp f F.length r F.length = f r from by unfold swp; rw [if_pos rfl]] at hor
        have d5 := hor.at hkn
        rw [HYY.out] at d5
        have gl5 := hor.gl.2
        have hblg := hor.gl.1
        have HOR5 := Lib.hid hor
        have HUQ := Lib.hid huq
        have hsB := HBD.out.size
        clear hor huq d gl hcr hca hfz hfa c1 gl0 o2 ol hbb hbl HZ
        generalize (us2.set r (.slice (some ⟨ga, 0, none⟩) n capa)).set F.length (.slice (some ⟨gr, 0, none⟩) n capr) = us3 at *
        go_wp2_with fail
        refine (l03Inverse_any p y wB hp0 hp1 HYE.out).mono ?_
        rintro e w' ⟨rfl, rfl⟩
        go_wp2_with fail
        refine (l03Times_any p (powOf p y (p - 2).toNat) w1.heap.size gr n capr (f r) wB HOR5.out hp0 hp1 (fun j hj => HELS.out r hrm j hj) (powOf_elem hp0 _ _) hn1).mono ?_
        rintro e wC ⟨rfl, hoC, hgC⟩
        have HEC := Lib.hid (HSW.out.changed (f' := chTo (swp f F.length r) F.length n (mulRow p (Rd.inv p y))) HUQ.out hoC hgC (fun c hc j hj => by
          unfold chTo mulRow
          by_cases e : c = F.length
          · subst e
            rw [if_pos rfl, if_pos ⟨rfl, hj⟩]
            unfold swp
            rw [if_pos rfl]
            rfl
          · rw [if_neg e, if_neg (by omega)]))
        have HBC := Lib.hid (below_grown1 HBD.out hgC hsB hblg)
        have HEL2 := Lib.hid (chTo_elem (swp_elem HELS.out ham hrm) (mul_elem hp0 (Rd.inv p y)) F.length n)
        clear hoC hgC HSW HOR5 HBD d5 gl5 hsB HELS
        obtain ⟨h2, hh2⟩ : ∃ h2, chTo (swp f F.length r) F.length n (mulRow p (Rd.inv p y)) = h2 := ⟨_, rfl⟩
        rw [hh2] at HEC HEL2
        have HPV2 := Lib.hid (show Piv p n z.length f (clmTo p h2 n F.length k z.length) F.length k by rw [← hh2]; exact HPV.out)
        clear HPV hh2
        have o2 := HEC.out.box.m2
        have ol := HEC.out.box.lt
        go_wp2_with fail
        go_loopw [11] (fun s11 wr => ∃ i : Nat, i ≤ z.length ∧ s11 = .int .i64 i ∧ EchAt wr w2.heap.size w1.heap.size w2.heap.size p z.length n (some ⟨b, 0, none⟩) vc us3 (clmTo p h2 n F.length k i) (.slice fa F.length fc) F ∧ Below w1.heap.size w1 wr)
          (fun s11 _ => z.length - (intOf s11).toNat)
        case atStart => exact ⟨0, Nat.zero_le _, rfl, by rw [clm_zero]; exact HEC.out, HBC.out⟩
        case round =>
          obtain ⟨i, hi, rfl, hea, hb⟩ := hrel
          have HEI := Lib.hid hea
          have HBI := Lib.hid hb
          have hszi := hb.size
          clear o2 ol HEC HBC
          have o2 := hea.box.m2
          have ol := hea.box.lt
          clear hea hb
          by_cases hlt : i < z.length
          · have hi0 : (i : Int) < (z.length : Int) := by omega
            obtain ⟨b2, gi, capi, hvb, hui, -, hbl, hcr, -, hoi, -⟩ := HEI.out.rows.at hlt (by omega)
            cases hvb
            rw [clm_own] at hoi
            have d := hoi.at hkn
            have gl := hoi.gl.2
            have hgib := hoi.gl.1
            have HOI := Lib.hid hoi
            have HUI := Lib.hid hui
            clear hoi hui
            by_cases e : i = F.length
            · subst e
              have e1 : ((F.length : Int) != (F.length : Int)) = false := by simp
              go_wp2_with fail
              go_roundw
              case rel => exact ⟨F.length + 1, by omega, by go_num, by rw [clm_skip _ _ _ _ _ _ (.inl rfl)]; exact HEI.out, HBI.out⟩
              case measure => simp [intOf]; omega
            · have e0 : ¬ (i : Int) = (F.length : Int) := by omega
              have e1 : ((i : Int) != (F.length : Int)) = true := by simpa using e0
              by_cases hy0 : h2 i k = 0
              · rw [hy0] at d
                have HY0 := Lib.hid hy0
                clear hy0
                go_wp2_with fail
                go_roundw
                case rel => exact ⟨i + 1, by omega, by go_num, by rw [clm_skip _ _ _ _ _ _ (.inr HY0.out)]; exact HEI.out, HBI.out⟩
                case measure => simp [intOf]; omega
              · have HY0 := Lib.hid hy0
                have HXE := Lib.hid (HEL2.out i hlt k hkn)
                obtain ⟨x, hxx⟩ : ∃ x, h2 i k = x := ⟨_, rfl⟩
                rw [hxx] at d hy0 HXE
                have HXX := Lib.hid hxx
                have hxb : (x != 0) = true := by simpa using hy0
                have HPX := Lib.hid (show Elem p (p - x) from ⟨by have := HXE.out.2; omega, by have := HXE.out.1; omega⟩)
                have HW := Lib.hid (show IntKind.i64.wrap (p - x) = p - x from IntWalk.i64_in _ (by have := HPX.out.1; have := HPX.out.2; omega))
                have hoq := HEI.out.rows.own F.length _ HUQ.out
                rw [clm_row] at hoq
                have HCS := Lib.hid (fun j (hj : j < n) => hoq.at hj)
                have HNE := Lib.hid (show gr ≠ gi from fun q => HEI.out.rows.dis F.length i _ _ gr (fun q2 => e q2.symm) HUQ.out HUI.out rfl (by rw [q]; rfl))
                clear hoq hxx
                go_wp2_with fail
                go_region_law (go_simp; go_at_call 160; (try rw [HW.out]); refine (l03Add_any p (p - x) w1.heap.size gi n capi gr capr (h2 i) (h2 F.length) _ (by first | exact HOI.out | exact OwnI.step HOI.out (drew_step _)) (by first | exact HCS.out | exact fun j hj => cell_step (drew_step _) (HCS.out j hj)) HNE.out hp0 hp1 (fun j hj => HEL2.out i hlt j hj) (fun j hj => HEL2.out F.length ham j hj) HPX.out hn1).mono ?_; rintro e w8 ⟨rfl, ho8, hg8⟩)
                all_goals (
                  have HG8 := Lib.hid (show wr.grownBy w8 (some gi) by first | exact hg8 | exact grown_trans (grown_below (drew_step wr)) hg8)
                  have HE8 := Lib.hid (HEI.out.changed (f' := clmTo p h2 n F.length k (i + 1)) HUI.out ho8 HG8.out (fun c hc j hj => by
                    rw [← clm_step _ _ _ _ _ _ e HY0.out, HXX.out]
                    unfold chTo
                    by_cases e2 : c = i
                    · subst e2
                      rw [if_pos rfl, if_pos ⟨rfl, hj⟩, clm_own]
                    · rw [if_neg e2, if_neg (by omega)]))
                  have HB8 := Lib.hid (below_grown1 HBI.out HG8.out hszi hgib)
                  clear ho8 hg8
                  go_wp2_with fail
                  go_roundw
                  case rel => exact ⟨i + 1, by omega, by go_num, HE8.out, HB8.out⟩
                  case measure => simp [intOf]; omega)
          · have hE : i = z.length := by omega
            subst hE
            have hfl : F.length ≤ 1000 := by omega
            have hfl2 : (colI F).length = F.length := colI_len F
            have hf0 : wr.ownsRow w2.heap.size 2 1 (.slice fa F.length fc) (colI F).length (vals (colI F)) := HEI.out.fst
            have HF0 := Lib.hid hf0
            have hszq : w2.heap.size ≤ wr.heap.size := by omega
            clear hf0
            go_wp2_with (at_builtin; refine wpList_append_own _ rfl _ _ 35 rfl w2.heap.size 2 i0 (.int .i64 0) 1 8 Try.underlying35 ji jz0 jz1 jz2 rfl (by decide) _ _ _ rfl (World.ownsRow.alloc HF0.out _) ⟨wr.heap.size, 0, none⟩ 1 1 [.int .i64 k] rfl rfl (cell_one_new _ _ _) (by simp [Value.oneCell']) (by unfold maxLen; omega) (by omega) (by simp; omega) ?_; intro v' w11 hown1 hgrow1 _)
            go_wp2_with fail
            go_roundw
            case rel => exact ⟨k + 1, us3, clmTo p h2 n F.length k z.length, F ++ [k], by omega, by rw [List.length_append]; go_num, by go_num, (HEI.out.step (al_b wr _)).appended hgrow1 hown1, .piv _ _ _ _ HST.out hkn ham HPV2.out (clm_elem hp0 HEL2.out F.length k z.length), (HBI.out.trans ((al_b wr _).mono hszi)).grown hgrow1 (by simp; omega) (fun q hq => by have := (row_lt HF0.out hq).1; omega)⟩
            case measure => simp [intOf]; omega)
end Go.Proofs.Ytnebkhelobpkpaa

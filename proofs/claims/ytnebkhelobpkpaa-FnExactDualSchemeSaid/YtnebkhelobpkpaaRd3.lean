/- What a reduction holds in memory, and what keeps it. -/
import Derived.Test.YtnebkhelobpkpaaRd2
import Derived.Deep.CutRange
namespace Go.Proofs.Ytnebkhelobpkpaa
open Go.RowKit Go.Deep Go.Joins
set_option linter.unusedVariables false

theorem Try.infoIntT : (Try.prog.info? 3).map (fun i => (i.zero, i.size, i.bytes)) = some (some (.int .i64 0), 1, 8) := by kernel_rfl

/-- All blocks of a type are kept. -/
def KeepT (t : TypeId) (W W' : World) : Prop := ∀ b vs, Boxes W b t vs → Boxes W' b t vs
theorem KeepT.of_below {t : TypeId} {W W' : World} (hb : Below W.heap.size W W') : KeepT t W W' := fun b vs h => h.step hb
theorem KeepT.set {t t0 : TypeId} {W : World} {q : Nat} {vs0 : Array Value} (h : Boxes W q t0 vs0) (ht : t ≠ t0) (o : Nat) (v : Value) : KeepT t W (W.setCell ⟨q, o, none⟩ v) := fun b vs hb => hb.other3 (fun e => by
  subst e
  have h1 : W.heap[b]? = _ := h
  have h2 : W.heap[b]? = _ := hb
  rw [h1] at h2
  cases h2
  exact ht rfl)
theorem KeepT.grown {t e : TypeId} {W W' : World} {base size k : Nat} {v : Value} {xs : List Value} (ho : W.ownsRow base e size v k xs) (hg : W.grownBy W' v.ownBlock) (ht : t ≠ e) : KeepT t W W' := fun b vs h => h.grown hg (fun hb => by
  rcases ho.2 with ⟨hv, _⟩ | ⟨g', cap', cur, hv, _, hg', _⟩
  · rw [hv] at hb; cases hb
  · rw [hv] at hb
    cases hb
    have h2 : W.heap[g']? = _ := h
    rw [hg'] at h2
    cases h2
    exact ht rfl)
theorem KeepT.trans {t : TypeId} {a b c : World} (h : KeepT t a b) (k : KeepT t b c) : KeepT t a c := fun q vs x => k q vs (h q vs x)
theorem row_keepT {W W' : World} {base e size k : Nat} {v : Value} {xs : List Value} (h : W.ownsRow base e size v k xs) (hk : KeepT e W W') : W'.ownsRow base e size v k xs := by
  refine ⟨h.1, ?_⟩
  rcases h.2 with h2 | ⟨g, cap, cur, hv, hg, hh, r⟩
  · exact .inl h2
  · exact .inr ⟨g, cap, cur, hv, hg, hk g cur hh, r⟩
theorem OwnG.keepT {W W' : World} {base : Nat} {p : Int} {v : Value} {us : List Value} {zss : List (List Int)} (h : OwnG W base p v us zss) (h1 : KeepT 173 W W') (h2 : KeepT 126 W W') : OwnG W' base p v us zss :=
  ⟨row_keepT h.row h1, h.rows.map fun u zs k => row_keepT k h2⟩
theorem OwnG.apart {W : World} {base g g2 n n2 cap cap2 r s : Nat} {p : Int} {v : Value} {us : List Value} {zss : List (List Int)} (h : OwnG W base p v us zss) (h1 : us[r]? = some (.slice (some ⟨g, 0, none⟩) n cap)) (h2 : us[s]? = some (.slice (some ⟨g2, 0, none⟩) n2 cap2)) (hne : r ≠ s) : g ≠ g2 := by
  have hr := (List.getElem?_eq_some_iff.1 h1).1
  have hs := (List.getElem?_eq_some_iff.1 h2).1
  have e1 : us[r] = .slice (some ⟨g, 0, none⟩) n cap := by rw [List.getElem?_eq_getElem hr] at h1; exact Option.some.inj h1
  have e2 : us[s] = .slice (some ⟨g2, 0, none⟩) n2 cap2 := by rw [List.getElem?_eq_getElem hs] at h2; exact Option.some.inj h2
  have hp := List.pairwise_iff_getElem.1 h.rows.sep
  rcases Nat.lt_or_gt_of_ne hne with q | q
  · have := hp r s hr hs q g g2 (by rw [e1]; rfl) (by rw [e2]; rfl); omega
  · have := hp s r hs hr q g2 g (by rw [e2]; rfl) (by rw [e1]; rfl); omega

theorem OwnG.rltR {W : World} {base : Nat} {p : Int} {v : Value} {us : List Value} {zss : List (List Int)} (h : OwnG W base p v us zss) {r g n cap : Nat} (hu : us[r]? = some (.slice (some ⟨g, 0, none⟩) n cap)) : base ≤ g ∧ g < W.heap.size := by
  have hr : r < us.length := (List.getElem?_eq_some_iff.1 hu).1
  have hz : r < zss.length := by rw [← h.rows.len]; exact hr
  exact row_lt (h.rows.own r _ zss[r] hu (by simp [hz])) rfl

/-- Columns as values. -/
def cols (F : List Nat) : List Value := F.map fun x => .int .i64 ((x : Nat) : Int)
theorem cols_len (F : List Nat) : (cols F).length = F.length := by simp [cols]
theorem cols_snoc (F : List Nat) (k : Nat) : cols (F ++ [k]) = cols F ++ [.int .i64 ((k : Nat) : Int)] := by simp [cols]

/-- A REDUCTION IN MEMORY. -/
structure RedAt (W : World) (q base : Nat) (p : Int) (m n : Nat) (va : Option Addr) (vc : Nat) (us : List Value) (f : Nat → Nat → Int) (fa : Option Addr) (fc : Nat) (F : List Nat) (x : Int) : Prop where
  box : Boxes W q 128 #[.slice va m vc, .int .i64 p, .int .i64 ((n : Nat) : Int), .slice fa F.length fc, .int .i64 p, .int .i64 x]
  grid : OwnG W base p (.slice va m vc) us (tab m n f)
  firsts : W.ownsRow base 3 1 (.slice fa F.length fc) F.length (cols F)
section
variable {W W' : World} {q base m n vc fc : Nat} {p x : Int} {va fa : Option Addr} {us : List Value} {f f' : Nat → Nat → Int} {F : List Nat}
theorem RedAt.step (h : RedAt W q base p m n va vc us f fa fc F x) (hb : Below W.heap.size W W') : RedAt W' q base p m n va vc us f fa fc F x := ⟨h.box.step hb, h.grid.step hb, row_step h.firsts hb⟩
theorem RedAt.changed (h : RedAt W q base p m n va vc us f fa fc F x) (ho : OwnG W' base p (.slice va m vc) us (tab m n f')) (hk : ∀ B t vs, t ≠ 126 → Boxes W B t vs → Boxes W' B t vs) : RedAt W' q base p m n va vc us f' fa fc F x :=
  ⟨hk _ _ _ (by decide) h.box, ho, row_keepT h.firsts fun b vs k => hk b _ vs (by decide) k⟩
theorem RedAt.e0 (h : RedAt W q base p m n va vc us f fa fc F x) : W.cell? ⟨q, 0, none⟩ = some (.slice va m vc) := by rw [h.box.cell]; rfl
theorem RedAt.e1 (h : RedAt W q base p m n va vc us f fa fc F x) : W.cell? ⟨q, 1, none⟩ = some (.int .i64 p) := by rw [h.box.cell]; rfl
theorem RedAt.e2 (h : RedAt W q base p m n va vc us f fa fc F x) : W.cell? ⟨q, 2, none⟩ = some (.int .i64 ((n : Nat) : Int)) := by rw [h.box.cell]; rfl
theorem RedAt.e3 (h : RedAt W q base p m n va vc us f fa fc F x) : W.cell? ⟨q, 3, none⟩ = some (.slice fa F.length fc) := by rw [h.box.cell]; rfl
theorem RedAt.e4 (h : RedAt W q base p m n va vc us f fa fc F x) : W.cell? ⟨q, 4, none⟩ = some (.int .i64 p) := by rw [h.box.cell]; rfl
theorem RedAt.e5 (h : RedAt W q base p m n va vc us f fa fc F x) : W.cell? ⟨q, 5, none⟩ = some (.int .i64 x) := by rw [h.box.cell]; rfl
/-- The factor is written. -/
theorem RedAt.factor (h : RedAt W q base p m n va vc us f fa fc F x) (y : Int) : RedAt ((W.setCell ⟨q, 4, none⟩ (.int .i64 p)).setCell ⟨q, 5, none⟩ (.int .i64 y)) q base p m n va vc us f fa fc F y := by
  have hbx := h.box
  have h4 : Boxes (W.setCell ⟨q, 4, none⟩ (.int .i64 p)) q 128 #[.slice va m vc, .int .i64 p, .int .i64 ((n : Nat) : Int), .slice fa F.length fc, .int .i64 p, .int .i64 x] := by
    unfold Boxes at hbx ⊢
    simp [World.setCell, Array.getElem?_modify, hbx]
  refine ⟨?_, (h.grid.keepT (KeepT.set hbx (by decide) _ _) (KeepT.set hbx (by decide) _ _)).keepT (KeepT.set h4 (by decide) _ _) (KeepT.set h4 (by decide) _ _), row_keepT (row_keepT h.firsts (KeepT.set hbx (by decide) _ _)) (KeepT.set h4 (by decide) _ _)⟩
  unfold Boxes at h4 ⊢
  simp [World.setCell, Array.getElem?_modify, show W.heap[q]? = _ from h.box]
/-- A column is added. -/
theorem RedAt.added {W1 : World} {v : Value} {k : Nat} (h : RedAt W q base p m n va vc us f fa fc F x) (hg : W.grownBy W1 (Value.slice fa F.length fc).ownBlock) (ho : W1.ownsRow base 3 1 v (F.length + 1) (cols F ++ [.int .i64 ((k : Nat) : Int)])) :
    ∃ fa' fc', v = .slice fa' (F.length + 1) fc' ∧ RedAt (W1.setCell ⟨q, 3, none⟩ v) q base p m n va vc us f fa' fc' (F ++ [k]) x := by
  obtain ⟨fa', fc', rfl⟩ := rowForm ho
  have hbx := h.box
  have hb1 : Boxes W1 q 128 #[.slice va m vc, .int .i64 p, .int .i64 ((n : Nat) : Int), .slice fa F.length fc, .int .i64 p, .int .i64 x] := KeepT.grown h.firsts hg (by decide) _ _ hbx
  refine ⟨fa', fc', rfl, ?_, (h.grid.keepT (KeepT.grown h.firsts hg (by decide)) (KeepT.grown h.firsts hg (by decide))).keepT (KeepT.set hb1 (by decide) _ _) (KeepT.set hb1 (by decide) _ _), ?_⟩
  · rw [List.length_append]
    unfold Boxes at hb1 ⊢
    simp [World.setCell, Array.getElem?_modify, hb1]
  · rw [List.length_append, cols_snoc]
    exact row_keepT ho (KeepT.set hb1 (by decide) _ _)
/-- A row of it. -/
theorem RedAt.row (h : RedAt W q base p m n va vc us f fa fc F x) {r : Nat} (hr : r < m) (hn : 0 < n) : ∃ b g cap, va = some ⟨b, 0, none⟩ ∧ us[r]? = some (.slice (some ⟨g, 0, none⟩) n cap) ∧ base ≤ g ∧ b < W.heap.size ∧ g < W.heap.size ∧ W.cell? ⟨b, r, none⟩ = some (.slice (some ⟨g, 0, none⟩) n cap) ∧
    ∀ j, j < n → W.cell? ⟨g, j * 2, none⟩ = some (.int .i64 p) ∧ W.cell? ⟨g, j * 2 + 1, none⟩ = some (.int .i64 (f r j)) := by
  have hrl : (nthL (tab m n f) r).length = n := tab_rlen _ _ _ hr
  obtain ⟨b, c, g, cap, hv, hu, -, hg, hb2, hg2, hcr, hcc, -, -⟩ := h.grid.at (r := r) (by rw [tab_len]; exact hr) (by rw [hrl]; exact hn)
  rw [hrl] at hu hcr hcc
  rw [tab_len] at hv
  cases hv
  exact ⟨b, g, cap, rfl, hu, hg, hb2, hg2, hcr, fun j hj => by have := hcc j hj; rw [tab_at _ _ _ hr hj] at this; exact this⟩
end
theorem nums_of {W : World} {g n m r : Nat} {p : Int} {f : Nat → Nat → Int} (hr : r < m) (h : ∀ j, j < n → W.cell? ⟨g, j * 2, none⟩ = some (.int .i64 p) ∧ W.cell? ⟨g, j * 2 + 1, none⟩ = some (.int .i64 (f r j))) : Nums W (some ⟨g, 0, none⟩) p (nthL (tab m n f) r) :=
  .inr ⟨g, rfl, fun i hi => by rw [tab_rlen _ _ _ hr] at hi; rw [tab_at _ _ _ hr hi]; exact h i hi⟩
theorem inc_eq (p c : Int) (f f2 : Nat → Nat → Int) (m n s i : Nat) (hs : s < m) : tab m n (chTo f i n (fun j x => (x + nth (nthL (tab m n f2) s) j * c % p) % p)) = tab m n (chTo f i n (incRow p f2 s c)) := tab_ext fun r j hr hj => by
  unfold chTo incRow
  split
  · show (f r j + nth (nthL (tab m n f2) s) j * c % p) % p = _
    rw [tab_at _ _ _ hs hj]
  · rfl
/-- changeRow_gen, with the blocks that are not the row's. -/
theorem changeRow_gen2 (p : Int) (va : Option Addr) (vc m n i base fid : Nat) (cr : Array Value) (us : List Value) (f : Nat → Nat → Int) (h : Nat → Int → Int) (w : World)
    (ho : OwnG w base p (.slice va m vc) us (tab m n f)) (hi : i < m) (hm : m ≤ 1000) (hn : n ≤ 1000) (hC : ∀ g cap, us[i]? = some (.slice (some ⟨g, 0, none⟩) n cap) → base ≤ g → g < w.heap.size → 0 < n → ∃ Inv, Changes g fid cr p n (f i) h Inv ∧ Inv w) :
    Calls Try.prog 141 #[.slice va m vc, .int .i64 i, .func (.func fid) #[] cr] w fun e w' => e = .returned (.tuple #[]) ∧ OwnG w' base p (.slice va m vc) us (tab m n (chTo f i n h)) ∧ Below base w w' ∧ w.heap.size ≤ w'.heap.size ∧ (∀ B t vs, t ≠ 126 → Boxes w B t vs → Boxes w' B t vs) ∧ ∀ B t vs, (∀ g cap, us[i]? = some (.slice (some ⟨g, 0, none⟩) n cap) → B ≠ g) → Boxes w B t vs → Boxes w' B t vs := by
  by_cases h0 : n = 0
  · subst h0
    refine (changeRow_nil va vc m i base p _ us f w ho hi hm).mono ?_
    rintro e w' ⟨rfl, rfl⟩
    rw [chTo_zero]
    exact ⟨rfl, ho, Below.refl _ _, Nat.le_refl _, fun _ _ _ _ k => k, fun _ _ _ _ k => k⟩
  · have hil : i < (tab m n f).length := by rw [tab_len]; exact hi
    have hrl : (nthL (tab m n f) i).length = n := tab_rlen _ _ _ hi
    obtain ⟨b, c, g, cap, hv, hu, hb1, hg1, hbl, hgl, hcr, hcc, hfz, hon⟩ := ho.at (r := i) hil (by rw [hrl]; omega)
    rw [hrl] at hu hon
    obtain ⟨Inv, hCh, hI⟩ := hC g cap hu hg1 hgl (by omega)
    refine (changeRow_any p va vc m n i base g cap fid cr us f h Inv w ho hi hm hn (by omega) hu hCh hI).mono ?_
    rintro e w' ⟨rfl, ho', hg', _⟩
    exact ⟨rfl, ho', ⟨hg'.os, hg'.tape, hg'.output, hg'.size, fun q hq => hg'.block q (by omega) (by simp; omega)⟩, hg'.size, fun B t vs ht hB => hB.grown hg' (by have := hB.off hon ht; simp; omega), fun B t vs ht hB => hB.grown hg' (by have := ht g cap hu; simp; omega)⟩
theorem al_b (w : World) (o : Obj) : Below w.heap.size w (w.alloc o) := (Below.refl _ _).alloc (Nat.le_refl _) o
/-- A row that another one is added to. -/
theorem inc_row {W W2 : World} {q base m n vc fc g capg i s q2 q3 : Nat} {p x c : Int} {va fa : Option Addr} {us : List Value} {f : Nat → Nat → Int} {F : List Nat} (h : RedAt W q base p m n va vc us f fa fc F x) (hp : 2 ≤ p) (hp1 : p ≤ 31) (hf : ∀ r, r < m → ∀ j, j < n → Elem p (f r j)) (hi : i < m) (hs : s < m) (hne : s ≠ i) (hm : m ≤ 1000) (hn : n ≤ 1000) (hc : Elem p c)
    (hu : us[s]? = some (.slice (some ⟨g, 0, none⟩) n capg)) (hcells : ∀ j, j < n → W.cell? ⟨g, j * 2, none⟩ = some (.int .i64 p) ∧ W.cell? ⟨g, j * 2 + 1, none⟩ = some (.int .i64 (f s j))) (hbw : base ≤ W.heap.size) (hw : Below W.heap.size W W2) (h2 : W.heap.size ≤ q2) (h3 : W.heap.size ≤ q3)
    (b2 : Boxes W2 q2 173 #[.slice (some ⟨g, 0, none⟩) n capg]) (b3 : Boxes W2 q3 126 #[.int .i64 p, .int .i64 c]) :
    Calls Try.prog 141 #[.slice va m vc, .int .i64 i, .func (.func 168) #[] #[.pointer (some ⟨q2, 0, none⟩), .pointer (some ⟨q3, 0, none⟩)]] W2 fun e w' => e = .returned (.tuple #[]) ∧ RedAt w' q base p m n va vc us (chTo f i n (incRow p f s c)) fa fc F x ∧ Below base W w' ∧ W.heap.size ≤ w'.heap.size := by
  have hl : (nthL (tab m n f) s).length = n := tab_rlen _ _ _ hs
  refine (changeRow_gen p va vc m n i base 168 _ us f (fun j x => (x + nth (nthL (tab m n f) s) j * c % p) % p) W2 (h.grid.step hw) hi hm hn (fun g2 cap2 hu2 hg2 hgl2 h0 => ⟨IncInv g2 q2 q3 capg (some ⟨g, 0, none⟩) p c (nthL (tab m n f) s), ?_, ?_⟩)).mono ?_
  · have hlt := h.grid.rltR hu2
    exact incr_changes g2 q2 q3 capg n (some ⟨g, 0, none⟩) p c (nthL (tab m n f) s) (f i) hp hp1 hl hn hc (fun j hj => by rw [tab_at _ _ _ hs hj]; exact hf s hs j hj) (fun j hj => hf i hi j hj) (by omega) (by omega) (fun a ha => by cases ha; exact h.grid.apart hu hu2 hne)
  · exact ⟨by rw [hl]; exact b2, b3, (nums_of hs hcells).step hw⟩
  · rintro e w' ⟨rfl, ho, hb, hsz, hk⟩
    rw [inc_eq _ _ _ _ _ _ _ _ hs] at ho
    exact ⟨rfl, (h.step hw).changed ho hk, (hw.mono hbw).trans hb, Nat.le_trans hw.size hsz⟩
/-- A row that is multiplied. -/
theorem mul_row {W W2 : World} {q base m n vc fc i q3 : Nat} {p x c : Int} {va fa : Option Addr} {us : List Value} {f : Nat → Nat → Int} {F : List Nat} (h : RedAt W q base p m n va vc us f fa fc F x) (hp : 2 ≤ p) (hp1 : p ≤ 31) (hf : ∀ r, r < m → ∀ j, j < n → Elem p (f r j)) (hi : i < m) (hm : m ≤ 1000) (hn : n ≤ 1000) (hc : Elem p c)
    (hbw : base ≤ W.heap.size) (hw : Below W.heap.size W W2) (h3 : W.heap.size ≤ q3) (b3 : Boxes W2 q3 126 #[.int .i64 p, .int .i64 c]) :
    Calls Try.prog 141 #[.slice va m vc, .int .i64 i, .func (.func 175) #[] #[.pointer (some ⟨q3, 0, none⟩)]] W2 fun e w' => e = .returned (.tuple #[]) ∧ RedAt w' q base p m n va vc us (chTo f i n (mulRow p c)) fa fc F x ∧ Below base W w' ∧ W.heap.size ≤ w'.heap.size ∧ ∀ B t vs, W.heap.size ≤ B → Boxes W2 B t vs → Boxes w' B t vs := by
  refine (changeRow_gen2 p va vc m n i base 175 _ us f (mulRow p c) W2 (h.grid.step hw) hi hm hn (fun g2 cap2 hu2 hg2 hgl2 h0 => ⟨MulInv q3 p c, ?_, b3⟩)).mono ?_
  · have hlt := h.grid.rltR hu2
    exact mult_changes g2 q3 n p c (f i) hp hp1 hc (fun j hj => hf i hi j hj) (by omega)
  · rintro e w' ⟨rfl, ho, hb, hsz, hk, hk2⟩
    exact ⟨rfl, (h.step hw).changed ho hk, (hw.mono hbw).trans hb, Nat.le_trans hw.size hsz, fun B t vs hB k => hk2 B t vs (fun g cap hu => by have := h.grid.rltR hu; omega) k⟩
end Go.Proofs.Ytnebkhelobpkpaa

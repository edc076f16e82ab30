/- The model's family of a table: l01From. -/
import Derived.Test.YtnebkhelobpkpaaDoorSort
namespace Go.Proofs.YtnebkhelobpkpaaDoor
open Go.RowKit Go.Deep Go.Shelf
set_option linter.unusedVariables false

/-- A list of bools, up to its length. -/
def Bools (w : World) (a : Option Addr) (n : Nat) (p : Nat → Bool) : Prop := ∃ b o, a = some ⟨b, o, none⟩ ∧ ∀ i, i < n → w.cell? ⟨b, o + i, none⟩ = some (.bool (p i))
theorem Bools.step {w w' : World} {a : Option Addr} {n : Nat} {p : Nat → Bool} (h : Bools w a n p) (hb : Below w.heap.size w w') : Bools w' a n p := by
  obtain ⟨b, o, ha, hc⟩ := h
  exact ⟨b, o, ha, fun i hi => cell_step hb (hc i hi)⟩
theorem Bools.congr {w : World} {a : Option Addr} {n : Nat} {p q : Nat → Bool} (h : Bools w a n p) (e : ∀ i, i < n → p i = q i) : Bools w a n q := by
  obtain ⟨b, o, ha, hc⟩ := h
  exact ⟨b, o, ha, fun i hi => by rw [← e i hi]; exact hc i hi⟩

/-- Numbers in a block from base on. -/
def IntsF (w : World) (base : Nat) (a : Option Addr) (zs : List Int) : Prop :=
  zs = [] ∨ ∃ b o, base ≤ b ∧ a = some ⟨b, o, none⟩ ∧ ∀ i, i < zs.length → w.cell? ⟨b, o + i, none⟩ = some (.int .i64 (nth zs i))
/-- Rows in blocks from base on. -/
def RowsF (w : World) (base : Nat) (a : Option Addr) (zss : List (List Int)) : Prop :=
  zss = [] ∨ ∃ b o, base ≤ b ∧ a = some ⟨b, o, none⟩ ∧ ∀ i, i < zss.length → ∃ (ai : Option Addr) (ci : Nat), w.cell? ⟨b, o + i, none⟩ = some (.slice ai (nthL zss i).length ci) ∧ IntsF w base ai (nthL zss i)
theorem IntsF.ints {w : World} {base : Nat} {a : Option Addr} {zs : List Int} (h : IntsF w base a zs) : Ints w a zs := h.imp id fun ⟨b, o, _, ha, hc⟩ => ⟨b, o, ha, hc⟩
theorem RowsF.rows {w : World} {base : Nat} {a : Option Addr} {zss : List (List Int)} (h : RowsF w base a zss) : Rows2 w a zss :=
  h.imp id fun ⟨b, o, _, ha, hc⟩ => ⟨b, o, ha, fun i hi => let ⟨ai, ci, h1, h2⟩ := hc i hi; ⟨ai, ci, h1, h2.ints⟩⟩
theorem IntsF.keep {w w' : World} {base : Nat} {a : Option Addr} {zs : List Int} (h : IntsF w base a zs) (hk : ∀ b o v, base ≤ b → w.cell? ⟨b, o, none⟩ = some v → w'.cell? ⟨b, o, none⟩ = some v) : IntsF w' base a zs :=
  h.imp id fun ⟨b, o, hb, ha, hc⟩ => ⟨b, o, hb, ha, fun i hi => hk _ _ _ hb (hc i hi)⟩
theorem RowsF.keep {w w' : World} {base : Nat} {a : Option Addr} {zss : List (List Int)} (h : RowsF w base a zss) (hk : ∀ b o v, base ≤ b → w.cell? ⟨b, o, none⟩ = some v → w'.cell? ⟨b, o, none⟩ = some v) : RowsF w' base a zss :=
  h.imp id fun ⟨b, o, hb, ha, hc⟩ => ⟨b, o, hb, ha, fun i hi => let ⟨ai, ci, h1, h2⟩ := hc i hi; ⟨ai, ci, hk _ _ _ hb h1, h2.keep hk⟩⟩
theorem RowsF.step {w w' : World} {base : Nat} {a : Option Addr} {zss : List (List Int)} (h : RowsF w base a zss) (hb : Below w.heap.size w w') : RowsF w' base a zss := h.keep fun _ _ _ _ hc => cell_step hb hc
theorem RowsF.set {w : World} {base : Nat} {a : Option Addr} {zss : List (List Int)} (h : RowsF w base a zss) {q : Nat} (hq : q < base) (o : Nat) (v : Value) : RowsF (w.setCell ⟨q, o, none⟩ v) base a zss :=
  h.keep fun b o' u hb hc => (World.cell?_setCell_other _ _ _ _ (by simp only [ne_eq, Addr.mk.injEq, not_and]; omega)).trans hc
theorem RowsF.mono {w : World} {base base' : Nat} {a : Option Addr} {zss : List (List Int)} (h : RowsF w base a zss) (hb : base' ≤ base) : RowsF w base' a zss :=
  h.imp id fun ⟨b, o, h1, ha, hc⟩ => ⟨b, o, by omega, ha, fun i hi => let ⟨ai, ci, h2, h3⟩ := hc i hi; ⟨ai, ci, h2, h3.imp id fun ⟨b', o', h4, h5⟩ => ⟨b', o', by omega, h5⟩⟩⟩
theorem OwnI.intsF {w : World} {base : Nat} {v : Value} {zs : List Int} (h : OwnI w base v zs) : ∃ a c, v = .slice a zs.length c ∧ IntsF w base a zs := by
  rcases h.2 with ⟨hv, hn⟩ | ⟨g, cap, cur, hv, hb, hg, hnc, hcm, hcs, htake⟩
  · exact ⟨none, 0, by rw [hv, hn], .inl (List.eq_nil_of_length_eq_zero hn)⟩
  · subst hv
    refine ⟨_, _, rfl, .inr ⟨g, 0, hb, rfl, fun i hi => ?_⟩⟩
    rw [Nat.zero_add, World.ownsRow.cellAt h i (by omega)]
    simp [vals, hi, nth_lt hi]

/-- What gives a family that is only read. -/
structure GivesFamR (W : World) (h : Int) (zss : List (List Int)) (e : Ending) (w' : World) : Prop where
  val : ∃ a c, e = .returned (.agg #[.int .i64 h, .slice a zss.length c]) ∧ RowsF w' W.heap.size a zss ∧ Lens zss
  below : Below W.heap.size W w'

def partB (p : Nat → Bool) (x j : Nat) : Bool := p x && (List.range j).all fun i => !(x.testBit i && p (dropOne x i))
theorem partB_zero (p : Nat → Bool) (x : Nat) : partB p x 0 = p x := by simp [partB]
theorem partB_succ (p : Nat → Bool) (x j : Nat) : partB p x (j + 1) = (partB p x j && !(x.testBit j && p (dropOne x j))) := by
  simp only [partB, List.range_succ, List.all_append, List.all_cons, List.all_nil, Bool.and_true, Bool.and_assoc]
theorem partB_end (p : Nat → Bool) (x h : Nat) : partB p x h = leastB h p x := by unfold partB leastB; rw [Bool.and_comm]
theorem partB_false {p : Nat → Bool} {x j : Nat} (hf : partB p x j = false) : ∀ d, partB p x (j + d) = false
  | 0 => hf
  | d + 1 => by rw [show j + (d + 1) = (j + d) + 1 by omega, partB_succ, partB_false hf d]; rfl
theorem partB_least {p : Nat → Bool} {x j h : Nat} (hj : j ≤ h) (hf : partB p x j = false) : leastB h p x = false := by
  rw [← partB_end, show h = j + (h - j) by omega]; exact partB_false hf _

theorem drop_fact0 : ∀ x : Nat, x < 128 → ∀ n : Nat, n < 7 → bits BinOp.andNot IntKind.i64 (x : Int) ((2 ^ n : Nat) : Int) = (dropOne x n : Nat) := by decide +kernel
theorem drop_fact (x : Nat) (hx : x < 128) (n : Nat) (hn : n < 7) : bits BinOp.andNot IntKind.i64 (x : Int) (wrap64 (2 ^ n)) = (dropOne x n : Nat) := by
  rw [← drop_fact0 x hx n hn, wrap64_pow (by omega)]

theorem picked_hit {P : Nat → Bool} {k : Nat} (h : P k = true) : ((List.range (k + 1)).filter P).map listOf = ((List.range k).filter P).map listOf ++ [listOf k] := by
  simp [List.range_succ, List.filter_append, h]
theorem picked_miss {P : Nat → Bool} {k : Nat} (h : P k = false) : ((List.range (k + 1)).filter P).map listOf = ((List.range k).filter P).map listOf := by
  simp [List.range_succ, List.filter_append, h]
theorem picked_len (P : Nat → Bool) (k : Nat) : (((List.range k).filter P).map listOf).length ≤ k := by
  rw [List.length_map]; exact Nat.le_trans (List.length_filter_le _ _) (by simp)

/-- Sorted rows, read. -/
theorem rows2_of {W : World} {base g cap n : Nat} {ps : List (Value × List Int)} (hn : ps.length = n) (hrow : W.ownsRow base 26 1 (.slice (some ⟨g, 0, none⟩) n cap) n (ps.map Prod.fst)) (hin : PairsIn W base ps) : RowsF W base (some ⟨g, 0, none⟩) (ps.map Prod.snd) := by
  refine .inr ⟨g, 0, (hrow.lt g rfl).1, rfl, fun i hi => ?_⟩
  have hi' : i < ps.length := by simpa using hi
  have h1 := World.ownsRow.cellAt hrow i (by omega)
  rw [List.getElem?_map, List.getElem?_eq_getElem hi'] at h1
  obtain ⟨a, c, e, hI⟩ := (hin _ (List.getElem_mem hi')).intsF
  have e2 : nthL (ps.map Prod.snd) i = ps[i].2 := by rw [nthL_lt hi]; simp
  rw [e2]
  exact ⟨a, c, by rw [Nat.zero_add, h1]; simp [e], hI⟩

theorem lens_small {zss : List (List Int)} (h1 : zss.length ≤ 1048576) (h2 : ∀ z ∈ zss, z.length ≤ 1048576) : Small2 zss := ⟨h1, fun r hr => by rw [nthL_lt hr]; exact h2 _ (List.getElem_mem hr)⟩
theorem famOf_small {h : Nat} (h7 : h ≤ 7) (p : Nat → Bool) : Small2 (pickOf p (lexAll h)) := by
  refine lens_small (Nat.le_trans (pickOf_len _ _) (Nat.le_trans (lexAll_len h7) (by omega))) fun z hz => ?_
  simp only [pickOf, List.mem_map] at hz
  obtain ⟨y, _, rfl⟩ := hz
  exact Nat.le_trans (listTo_len _ 7) (by omega)

end Go.Proofs.YtnebkhelobpkpaaDoor

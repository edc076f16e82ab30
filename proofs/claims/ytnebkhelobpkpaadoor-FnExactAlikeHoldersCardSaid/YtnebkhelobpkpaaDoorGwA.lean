/- What lies where groups are collected. -/
import Derived.Test.YtnebkhelobpkpaaDoorRrows
namespace Go.Proofs.YtnebkhelobpkpaaDoor
open Go.RowKit Go.Deep Go.Shelf
set_option linter.unusedVariables false

def pickOf (p : Nat → Bool) (pre : List G7) : List (List Int) := (pre.filter fun g => p g.val).map fun g => listOf g.val
theorem pickOf_len (p : Nat → Bool) (pre : List G7) : (pickOf p pre).length ≤ pre.length := by
  unfold pickOf; rw [List.length_map]; exact List.length_filter_le _ _
theorem pickOf_hit {p : Nat → Bool} (pre : List G7) (x : G7) (h : p x.val = true) : pickOf p (pre ++ [x]) = pickOf p pre ++ [listOf x.val] := by simp [pickOf, h]
theorem pickOf_miss {p : Nat → Bool} (pre : List G7) (x : G7) (h : p x.val = false) : pickOf p (pre ++ [x]) = pickOf p pre := by simp [pickOf, h]
theorem rest_len : ∀ (d : Nat) (g : G7) (f : Nat), (rest d g f).length + 1 = 2 ^ d
  | 0, _, _ => rfl
  | d + 1, g, f => by
    have h1 := rest_len d (putF g f) (f + 1)
    have h2 := rest_len d g (f + 1)
    simp only [rest, List.length_append, List.length_cons, Nat.pow_succ]
    omega
theorem lexAll_len {h : Nat} (h7 : h ≤ 7) : (lexAll h).length ≤ 128 := by
  have h1 := rest_len h ⟨0, by decide⟩ 0
  have h2 : 2 ^ h ≤ 2 ^ 7 := Nat.pow_le_pow_right (by decide) h7
  simp only [lexAll, List.length_cons]
  omega
theorem keepsBelow {A B : World} (h : Below A.heap.size A B) : KeepsOthers A B := ⟨h.size, fun k o hk _ => (h.block k (Array.getElem?_eq_some_iff.1 hk).1).trans hk⟩

/-- What lies where groups are collected. -/
structure Coll (w : World) (fv : Value) (zss : List (List Int)) (W : World) : Prop where
  bel : Below w.heap.size w W
  op : Boxed W w.heap.size 132 fv
  box : ∃ v us, Boxed W (w.heap.size + 1 + 1) 22 v ∧ W.ownsRow w.heap.size 26 1 v zss.length us ∧ RowsOwn W w.heap.size us zss

theorem Boxed.free {W W' : World} {row : Option Nat} {B : Nat} {t : TypeId} {v : Value} (h : Boxed W B t v) (hg : W.grownBy W' row) (hrow : ∀ r, row = some r → ∃ o : Obj, W.heap[r]? = some o ∧ o.isCells = false) : Boxed W' B t v :=
  h.kept hg (fun e => by
    obtain ⟨o, ho, hc⟩ := hrow B e.symm
    rw [show W.heap[B]? = _ from h] at ho; cases ho; cases hc)

theorem Coll.ownF {w : World} {fv : Value} {f : List G7 → List (List Int)} {B : Nat} (hB : w.heap.size ≤ B) : OwnFrom B (fun pre W => Coll w fv (f pre) W) := by
  intro pre W W' row hs hg hr
  have hr' : ∀ r, row = some r → ∃ o : Obj, W.heap[r]? = some o ∧ o.isCells = false := fun r e => (hr r e).2
  obtain ⟨v, us, hbx, hrow, hrows⟩ := hs.box
  exact ⟨hs.bel.grown hg hs.bel.size (fun k hk => Nat.le_trans hB (hr k hk).1), Boxed.free hs.op hg hr', v, us, Boxed.free hbx hg hr', row_free hrow hg hr', hrows.map (fun u zs hu => row_free hu hg hr')⟩

theorem Coll.init (w : World) (fv : Value) (u : Value) :
    Coll w fv [] ((((w.alloc (Obj.cells #[fv] 132)).alloc (Obj.cells #[] 26)).alloc (Obj.cells #[Value.slice (some { block := w.heap.size + 1, off := 0 }) 0 0] 22)).alloc (Obj.cells #[u] 2)) := by
  refine ⟨(((((Below.refl _ w).alloc (Nat.le_refl _) _).alloc (by simp) _).alloc (by simp <;> omega) _).alloc (by simp <;> omega) _), (((Boxed.new w _ fv).alloc _).alloc _).alloc _, Value.slice (some { block := w.heap.size + 1, off := 0 }) 0 0, [], ?_, ?_, RowsOwn.nil _ _⟩
  · have := (Boxed.new ((w.alloc (Obj.cells #[fv] 132)).alloc (Obj.cells #[] 26)) 22 (Value.slice (some { block := w.heap.size + 1, off := 0 }) 0 0)).alloc (Obj.cells #[u] 2)
    simpa only [World.size_alloc] using this
  · have h0 : ((w.alloc (Obj.cells #[fv] 132)).alloc (Obj.cells #[] 26)).ownsRow (w.alloc (Obj.cells #[fv] 132)).heap.size 26 1 (.slice (some ⟨(w.alloc (Obj.cells #[fv] 132)).heap.size, 0, none⟩) 0 0) 0 [] := World.ownsRow_made _ #[] 0 (Nat.le_refl _) (by unfold maxLen; omega) rfl
    have h1 := ownsRow_mono h0 (base' := w.heap.size) (by simp)
    have h2 := (World.ownsRow.alloc (World.ownsRow.alloc h1 (Obj.cells #[Value.slice (some { block := w.heap.size + 1, off := 0 }) 0 0] 22)) (Obj.cells #[u] 2))
    simpa only [World.size_alloc, List.length_nil] using h2

theorem Coll.push {w W w' w1 : World} {fv v u : Value} {us : List Value} {p : Nat → Bool} {pre : List G7} {g' cap' n : Nat} {tmp : Obj} (hs : Coll w fv (pickOf p pre) W) (x : G7) (hp : p x.val = true) (hb : Below W.drew.heap.size W.drew w')
    (hu : OwnI w' W.drew.heap.size u (listOf x.val)) (hbx' : Boxed w' (w.heap.size + 1 + 1) 22 v) (hrow' : w'.ownsRow w.heap.size 26 1 v n us) (hop' : Boxed w' w.heap.size 132 fv)
    (hrows : RowsOwn W w.heap.size us (pickOf p pre)) (hown1 : w1.ownsRow w.heap.size 26 1 (.slice (some ⟨g', 0, none⟩) (n + 1) cap') (n + 1) (us ++ [u])) (hgrow1 : (w'.alloc tmp).grownBy w1 v.ownBlock)
    (hb2 : Boxed (w1.setCell ⟨w.heap.size + 1 + 1, 0, none⟩ (.slice (some ⟨g', 0, none⟩) (n + 1) cap')) (w.heap.size + 1 + 1) 22 (.slice (some ⟨g', 0, none⟩) (n + 1) cap'))
    (hr2 : (w1.setCell ⟨w.heap.size + 1 + 1, 0, none⟩ (.slice (some ⟨g', 0, none⟩) (n + 1) cap')).ownsRow w.heap.size 26 1 (.slice (some ⟨g', 0, none⟩) (n + 1) cap') (n + 1) (us ++ [u]))
    (hbe2 : Below w.heap.size w' (w1.setCell ⟨w.heap.size + 1 + 1, 0, none⟩ (.slice (some ⟨g', 0, none⟩) (n + 1) cap'))) (hn : n = (pickOf p pre).length) :
    Coll w fv (pickOf p (pre ++ [x])) (w1.setCell ⟨w.heap.size + 1 + 1, 0, none⟩ (.slice (some ⟨g', 0, none⟩) (n + 1) cap')) := by
  have hbW : Below W.heap.size W w' := (drew_step W).trans hb
  have hr1 := hrows.snoc hbW hu hs.bel.size
  have hbx1 : Boxed w1 (w.heap.size + 1 + 1) 22 v := (hbx'.alloc tmp).kept hgrow1 (hbx'.not_row (by decide) hrow')
  rw [pickOf_hit _ _ hp]
  refine ⟨(hs.bel.trans (hbW.mono hs.bel.size)).trans hbe2, ?_, _, _, hb2, ?_, hr1.map fun z zs hz => ?_⟩
  · exact ((hop'.alloc tmp).kept hgrow1 (hop'.not_row (by decide) hrow')).kept (grownBy_setCell' _ _ _) (by simp <;> omega)
  · rw [List.length_append, ← hn]; exact hr2
  · have a1 : w1.ownsRow w.heap.size 2 1 z zs.length (vals zs) := (World.ownsRow.alloc hz tmp).kept hgrow1 (rows_apart hz hrow' (by decide))
    exact a1.kept (grownBy_setCell' _ _ _) (.inr (hbx1.not_row (by decide) a1).symm)
theorem row_set {W : World} {base e size k : Nat} {v : Value} {xs : List Value} (h : W.ownsRow base e size v k xs) {b o : Nat} (hb : b < base) (u : Value) : (W.setCell ⟨b, o, none⟩ u).ownsRow base e size v k xs := by
  refine h.kept ⟨rfl, rfl, rfl, (KeepsWalks.setCell W _ u).size, fun k _ hk => Below.heap_setCell _ _ _ k (fun e => hk (by rw [e]))⟩ (row := some b) ?_
  rcases h.2 with ⟨rfl, _⟩ | ⟨g, cap, cur, rfl, hg, _⟩
  · exact .inl rfl
  · refine .inr fun e' => ?_
    obtain rfl : g = b := by simpa [Value.ownBlock] using e'
    omega

/-- What gives a family of its own. -/
structure GivesFam (W : World) (h : Nat) (zss : List (List Int)) (e : Ending) (w' : World) : Prop where
  val : ∃ v us, e = .returned (.agg #[.int .i64 (h : Nat), v]) ∧ w'.ownsRow W.heap.size 26 1 v zss.length us ∧ RowsOwn w' W.heap.size us zss
  below : Below W.heap.size W w'

theorem rowForm {W : World} {base e size n : Nat} {v : Value} {xs : List Value} (h : W.ownsRow base e size v n xs) : ∃ a c, v = .slice a n c := by
  rcases h.2 with ⟨rfl, hn⟩ | ⟨g, cap, cur, rfl, _⟩
  · exact ⟨none, 0, by rw [hn]⟩
  · exact ⟨_, _, rfl⟩
theorem iteIntro {c : Bool} {A B : Prop} (h : c = true) (a : A) : (if c = true then A else B) := by rw [if_pos h]; exact a
end Go.Proofs.YtnebkhelobpkpaaDoor

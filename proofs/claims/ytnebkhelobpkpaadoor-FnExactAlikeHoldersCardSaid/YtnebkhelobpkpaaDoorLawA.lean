/- What the walks of the laws use: blocks, answers by their parts. -/
import Derived.Test.YtnebkhelobpkpaaDoorWts
import Derived.Test.YtnebkhelobpkpaaDoorMk
import Derived.Test.YtnebkhelobpkpaaDoorFam
namespace Go.Proofs.YtnebkhelobpkpaaDoor
open Go.RowKit Go.Deep
set_option linter.unusedVariables false

/-- A block of known cells. -/
def Boxes (W : World) (B : Nat) (t : TypeId) (vs : Array Value) : Prop := W.heap[B]? = some (.cells vs t (0, 0))
theorem Boxes.lt {W : World} {B : Nat} {t : TypeId} {vs : Array Value} (h : Boxes W B t vs) : B < W.heap.size := (Array.getElem?_eq_some_iff.1 h).1
theorem Boxes.step {W W' : World} {B : Nat} {t : TypeId} {vs : Array Value} (h : Boxes W B t vs) (hb : Below W.heap.size W W') : Boxes W' B t vs := (hb.block B h.lt).trans h
theorem Boxes.cell {W : World} {B : Nat} {t : TypeId} {vs : Array Value} (h : Boxes W B t vs) (i : Nat) : W.cell? ⟨B, i, none⟩ = vs[i]? := by simp [World.cell?, show W.heap[B]? = _ from h]
theorem Boxes.c0 {W : World} {B : Nat} {t : TypeId} {v0 v1 : Value} (h : Boxes W B t #[v0, v1]) : W.cell? ⟨B, 0, none⟩ = some v0 := by rw [h.cell]; rfl
theorem Boxes.c1 {W : World} {B : Nat} {t : TypeId} {v0 v1 : Value} (h : Boxes W B t #[v0, v1]) : W.cell? ⟨B, 1, none⟩ = some v1 := by rw [h.cell]; rfl

/-- What gives a family and a code, to be read. -/
structure GivesFX (W : World) (h : Int) (zss : List (List Int)) (code : Int) (e : Ending) (w' : World) : Prop where
  val : ∃ a c, e = .returned (.tuple #[.agg #[.int .i64 h, .slice a zss.length c], .int .i64 code]) ∧ RowsF w' W.heap.size a zss
  below : Below W.heap.size W w'
/-- What gives a family and a code in memory of its own. -/
structure GivesFY (W : World) (h : Int) (zss : List (List Int)) (code : Int) (e : Ending) (w' : World) : Prop where
  val : ∃ v us, e = .returned (.tuple #[.agg #[.int .i64 h, v], .int .i64 code]) ∧ Own w' W.heap.size v us zss
  below : Below W.heap.size W w'
theorem GivesFC.x {W w' : World} {r : FR} {e : Ending} (h : GivesFC W r e w') : GivesFX W r.h r.zss r.code e w' := ⟨h.val, h.below⟩
theorem GivesFO.y {W w' : World} {r : FR} {e : Ending} (h : GivesFO W r e w') : GivesFY W r.h r.zss r.code e w' := by
  obtain ⟨v, us, he, h1, h2⟩ := h.val
  exact ⟨⟨v, us, he, h1, h2⟩, h.below⟩
theorem Ints_of_own {W : World} {base n c : Nat} {a : Option Addr} {zs : List Int} (h : OwnI W base (.slice a n c) zs) : Ints W a zs := by
  obtain ⟨a', c', e, hi, _⟩ := h.ints
  cases e
  exact hi
theorem Boxes.keeps {W W' : World} {B : Nat} {t : TypeId} {vs : Array Value} (h : Boxes W B t vs) (hk : KeepsT W W') (ht : t ≠ 2) : Boxes W' B t vs := hk _ _ _ _ h ht
theorem Boxes.touch {lo hi : Nat} {W W' : World} {B : Nat} {t : TypeId} {vs : Array Value} (h : Boxes W B t vs) (ht : Touch lo hi W W') (hB : hi ≤ B) : Boxes W' B t vs := (ht.block B h.lt (.inr hB)).trans h
theorem Own.rows2v {W : World} {base n c : Nat} {a : Option Addr} {us : List Value} {zss : List (List Int)} (h : Own W base (.slice a n c) us zss) : Rows2 W a zss := by
  obtain ⟨a', c', e, hr⟩ := h.rows2
  cases e
  exact hr
theorem Own.rows2m {W : World} {base n c : Nat} {a : Option Addr} {us : List Value} {zss : List (List Int)} {k : Int} (h : Own W base (.slice a n c) us (marked k zss)) : Rows2 W a (marked k zss) := h.rows2v
end Go.Proofs.YtnebkhelobpkpaaDoor

/- The contracts of the laws' marks: markInt64S, heldInt64S. -/
import Derived.Test.YteifllengcacbaaDoorOwn
namespace Go.Proofs.YteifllengcacbaaDoor
open Go.RowKit Go.Deep
set_option linter.unusedVariables false

/-- Only blocks from lo on and before hi may have turned; new ones may have come. -/
structure Touch (lo hi : Nat) (w w' : World) : Prop where
  os : w'.os = w.os
  tape : w'.tape = w.tape
  output : w'.output = w.output
  size : w.heap.size ≤ w'.heap.size
  block : ∀ k, k < w.heap.size → (k < lo ∨ hi ≤ k) → w'.heap[k]? = w.heap[k]?

theorem Touch.below {lo hi : Nat} {w w' : World} (h : Touch lo hi w w') {B : Nat} (hB : B ≤ lo) (hs : lo ≤ w.heap.size) : Below B w w' := ⟨h.os, h.tape, h.output, h.size, fun k hk => h.block k (by omega) (.inl (by omega))⟩
theorem Touch.cell {lo hi : Nat} {w w' : World} (h : Touch lo hi w w') {b o : Nat} {v : Value} (hc : w.cell? ⟨b, o, none⟩ = some v) (hb : b < lo ∨ hi ≤ b) : w'.cell? ⟨b, o, none⟩ = some v :=
  (World.cell?_of_block (w := w) (a := ⟨b, o, none⟩) (h.block b (World.block_lt_of_cell? _ _ hc) hb)).trans hc
theorem Touch.own {lo hi : Nat} {w w' : World} (h : Touch lo hi w w') {base : Nat} {v : Value} {zs : List Int} (k : OwnI w base v zs) (hb : hi ≤ base) : OwnI w' base v zs := by
  refine ⟨k.1, ?_⟩
  rcases k.2 with h2 | ⟨g, cap, cur, hv, hg, hh, r⟩
  · exact .inl h2
  · exact .inr ⟨g, cap, cur, hv, hg, by rw [h.block g (Array.getElem?_eq_some_iff.1 hh).1 (.inr (by omega))]; exact hh, r⟩

/-- n numbers from k on. -/
def marks (k : Int) (n : Nat) : List Int := (List.range n).map fun (i : Nat) => k + i
theorem marks_len (k : Int) (n : Nat) : (marks k n).length = n := by simp [marks]
theorem marks_nth (k : Int) {n i : Nat} (h : i < n) : nth (marks k n) i = k + i := by
  rw [nth_lt (by rw [marks_len]; exact h)]; simp [marks]
theorem marks_succ (k : Int) (n : Nat) : marks k (n + 1) = marks k n ++ [k + n] := by simp [marks, List.range_succ]

theorem half_step (k : Int) (zs : List Int) {j : Nat} (h : j < zs.length) : (vals (marks k j ++ zs.drop j)).set j (.int .i64 (k + j)) = vals (marks k (j + 1) ++ zs.drop (j + 1)) := by
  have e1 : zs.drop j = zs[j] :: zs.drop (j + 1) := List.drop_eq_getElem_cons h
  have e2 : (vals (marks k j)).length = j := by simp [vals, marks_len]
  rw [e1, marks_succ]
  simp only [vals, List.map_append, List.map_cons, List.append_assoc, List.cons_append, List.nil_append]
  have e3 : (List.map (Value.int IntKind.i64) (marks k j)).length = j := e2
  rw [List.set_append, if_neg (by omega), e3, Nat.sub_self]
  rfl

/-- What marks a slice of a call's own. -/
structure Marked (W : World) (base : Nat) (v : Value) (zs : List Int) (k : Int) (e : Ending) (w' : World) : Prop where
  val : e = .returned (.int .i64 (k + zs.length))
  own : OwnI w' base v (marks k zs.length)
  size : w'.heap.size = W.heap.size
  grown : W.grownBy w' v.ownBlock

end Go.Proofs.YteifllengcacbaaDoor

/- Slices of numbers that a call has made. -/
import Derived.Test.YtnebkhelobpkpaaDoorLeast
import Derived.Test.YtnebkhelobpkpaaDoorList
namespace Go.Proofs.YtnebkhelobpkpaaDoor
open Go.RowKit Go.Deep
set_option linter.unusedVariables false

/-- What gives a slice of numbers of its own, and a code. -/
structure GivesIntsCode (W : World) (zs : List Int) (code : Int) (e : Ending) (w' : World) : Prop where
  val : ∃ v, e = .returned (.tuple #[v, .int .i64 code]) ∧ OwnI w' W.heap.size v zs
  below : Below W.heap.size W w'

theorem OwnI.mono {w : World} {base base' : Nat} {v : Value} {zs : List Int} (h : OwnI w base v zs) (hb : base' ≤ base) : OwnI w base' v zs := ownsRow_mono h hb
theorem OwnI.nil (w : World) (base : Nat) : OwnI w base (.slice none 0 0) [] := World.ownsRow_nil _ _ _ _
theorem OwnI.step {w w' : World} {base : Nat} {v : Value} {zs : List Int} (h : OwnI w base v zs) (hb : Below w.heap.size w w') : OwnI w' base v zs := by
  refine ⟨h.1, ?_⟩
  rcases h.2 with h2 | ⟨g, cap, cur, hv, hg, hh, r⟩
  · exact .inl h2
  · exact .inr ⟨g, cap, cur, hv, hg, by rw [hb.block g (Array.getElem?_eq_some_iff.1 hh).1]; exact hh, r⟩
theorem OwnI.ints {w : World} {base : Nat} {v : Value} {zs : List Int} (h : OwnI w base v zs) : ∃ a c, v = .slice a zs.length c ∧ Ints w a zs ∧ zs.length ≤ 9223372036854775807 := by
  rcases h.2 with ⟨hv, hn⟩ | ⟨g, cap, cur, hv, hb, hg, hnc, hcm, hcs, htake⟩
  · exact ⟨none, 0, by rw [hv, hn], .inl (List.eq_nil_of_length_eq_zero hn), by omega⟩
  · subst hv
    refine ⟨_, _, rfl, .inr ⟨g, 0, rfl, fun i hi => ?_⟩, by unfold maxLen at hcm; omega⟩
    rw [Nat.zero_add, World.ownsRow.cellAt h i (by omega)]
    simp [vals, hi, nth_lt hi]

theorem GivesInts.code {W w0 w' : World} {zs : List Int} {v : Value} (h : OwnI w' w0.heap.size v zs) (hs : W.heap.size ≤ w0.heap.size) (hb : Below W.heap.size W w') (code : Int) : GivesIntsCode W zs code (.returned (.tuple #[v, .int .i64 code])) w' :=
  ⟨⟨v, rfl, h.mono hs⟩, hb⟩

end Go.Proofs.YtnebkhelobpkpaaDoor

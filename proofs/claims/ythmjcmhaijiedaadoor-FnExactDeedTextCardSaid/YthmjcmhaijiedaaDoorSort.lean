/- The model's sorting of groups: l01Sorted. -/
import Derived.Test.YthmjcmhaijiedaaDoorLex
namespace Go.Proofs.YthmjcmhaijiedaaDoor
open Go.RowKit Go.Deep Go.Shelf
set_option linter.unusedVariables false

/-- Rows that a call has made, each beside its numbers. -/
def PairsIn (W : World) (base : Nat) (ps : List (Value × List Int)) : Prop := ∀ q ∈ ps, OwnI W base q.1 q.2
theorem PairsIn.map {W W' : World} {base : Nat} {ps : List (Value × List Int)} (h : PairsIn W base ps) (hk : ∀ u zs, OwnI W base u zs → OwnI W' base u zs) : PairsIn W' base ps := fun q hq => hk _ _ (h q hq)
theorem PairsIn.step {W W' : World} {base : Nat} {ps : List (Value × List Int)} (h : PairsIn W base ps) (hb : Below W.heap.size W W') : PairsIn W' base ps := h.map fun _ _ k => k.step hb

/-- What the sorting gives. -/
structure Sorted1 (w : World) (base g cap : Nat) (ps : List (Value × List Int)) (e : Ending) (w' : World) : Prop where
  val : e = .returned (.slice (some ⟨g, 0, none⟩) ps.length cap)
  row : w'.ownsRow base 22 1 (.slice (some ⟨g, 0, none⟩) ps.length cap) ps.length ((sortFrom ltP (ps.length - 1) 1 ps).map Prod.fst)
  ins : PairsIn w' base (sortFrom ltP (ps.length - 1) 1 ps)
  below : Below base w w'

theorem bubble_len {α : Type} (lt : α → α → Bool) : ∀ (k : Nat) (l : List α), (bubble lt k l).length = l.length
  | 0, l => rfl
  | k + 1, l => by
    rw [bubble]
    split
    · split
      · rw [bubble_len lt k]; simp
      · rfl
    · rfl

theorem swap_step {W : World} {base g cap n : Nat} {rs ts : List (Value × List Int)} {xs : List Value} (hrow : W.ownsRow base 22 1 (.slice (some ⟨g, 0, none⟩) n cap) n xs) (hin : PairsIn W base rs) (hm : ∀ q ∈ ts, q ∈ rs) (j i : Nat) (v0 v1 : Value) :
    ((W.setCell ⟨g, j, none⟩ v0).setCell ⟨g, i, none⟩ v1).ownsRow base 22 1 (.slice (some ⟨g, 0, none⟩) n cap) n ((xs.set j v0).set i v1) ∧
      PairsIn ((W.setCell ⟨g, j, none⟩ v0).setCell ⟨g, i, none⟩ v1) base ts ∧ Below base W ((W.setCell ⟨g, j, none⟩ v0).setCell ⟨g, i, none⟩ v1) := by
  have hgb : base ≤ g := (hrow.lt g rfl).1
  have hgl : g < W.heap.size := (hrow.lt g rfl).2
  obtain ⟨a1, a2⟩ := hrow.stored j v0
  obtain ⟨b1, b2⟩ := a1.stored i v1
  refine ⟨b1, fun q hq => ?_, ((Below.refl _ _).setCell hgb _).setCell hgb _⟩
  have h0 := hin q (hm q hq)
  have h1 := World.ownsRow.kept h0 a2 (rows_apart h0 hrow (by decide))
  exact World.ownsRow.kept h1 b2 (rows_apart h1 a1 (by decide))

end Go.Proofs.YthmjcmhaijiedaaDoor

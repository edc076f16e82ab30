/- The contracts of the laws' own counts and comparisons: szInt64S, szInt64SS, eqInt64S, eqInt64SS. -/
import Derived.Test.YteifllengcacbaaDoorMem
import Derived.Deep.QuietTactic
import Derived.BigQuiet
namespace Go.Proofs.YteifllengcacbaaDoor
open Go.RowKit Go.Deep

/-- What a count of room says: there was none, or there is room and all is small. -/
def RoomFor (left : Int) (P : Prop) (v : Int) : Prop := v = -1 ∨ (0 ≤ v ∧ v ≤ left ∧ P)
def Small (zs : List Int) : Prop := zs.length ≤ 1048576
def Small2 (zss : List (List Int)) : Prop := zss.length ≤ 1048576 ∧ ∀ r, r < zss.length → (nthL zss r).length ≤ 1048576
def GivesInt (P : Int → Prop) (e : Ending) : Prop := ∃ v : Int, P v ∧ e = .returned (.int .i64 v)

/-- Two lists are one where they are as long and all their elements are the same. -/
theorem ext_nth {xs ys : List Int} (hl : xs.length = ys.length) (h : ∀ i, i < xs.length → nth xs i = nth ys i) : xs = ys := by
  apply List.ext_getElem hl
  intro i h1 h2
  have := h i h1
  rwa [nth_lt h1, nth_lt h2] at this
theorem ext_nthL {xs ys : List (List Int)} (hl : xs.length = ys.length) (h : ∀ i, i < xs.length → nthL xs i = nthL ys i) : xs = ys := by
  apply List.ext_getElem hl
  intro i h1 h2
  have := h i h1
  rwa [nthL_lt h1, nthL_lt h2] at this

/-- A world that holds what another one held, a number of draws later. -/
def Quiet (w w' : World) : Prop := ∃ n, w' = w.drewN n
theorem Quiet.refl (w : World) : Quiet w w := ⟨0, rfl⟩

end Go.Proofs.YteifllengcacbaaDoor

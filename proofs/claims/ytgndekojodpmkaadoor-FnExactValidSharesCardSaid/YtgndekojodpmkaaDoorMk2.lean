/- Counts and marks with their exact sums: szInt64S, szInt64SS, markInt64SS, szMatrix, markMatrix. -/
import Derived.Test.YtgndekojodpmkaaDoorMat
namespace Go.Proofs.YtgndekojodpmkaaDoor
open Go.RowKit Go.Deep
set_option linter.unusedVariables false

set_option maxRecDepth 100000 in
theorem szS2_any (a : Option Addr) (zs : List Int) (c : Nat) (left : Int) (w : World) (h0 : 0 ≤ left) (h1 : left ≤ 1048576) (hl : zs.length ≤ 9223372036854775807) :
    Calls Tryd.prog 33 #[.slice a zs.length c, .int .i64 left] w fun e w' => GivesInt (fun v => v = -1 ∨ (0 ≤ v ∧ v + zs.length ≤ left)) e ∧ w = w' := by
  by_cases h : left - (zs.length : Int) < 0
  all_goals
    go_enter Tryd.func33, Tryd.ntmps33
    go_wp2
    go_ret
  · exact ⟨⟨_, .inl rfl, rfl⟩, rfl⟩
  · exact ⟨⟨_, .inr ⟨by omega, by omega⟩, rfl⟩, rfl⟩

def Room2 (left : Int) (zss : List (List Int)) (v : Int) : Prop := v = -1 ∨ (0 ≤ v ∧ v + total zss ≤ left ∧ v ≤ left ∧ Small2 zss)

/-- What marks a copy: the sum, and which blocks it touches. -/
structure Marked3 (W : World) (g n : Nat) (v : Int) (e : Ending) (w' : World) : Prop where
  val : e = .returned (.int .i64 v)
  touch : Touch g (g + 1 + n) W w'

theorem Own2.touch {W W' : World} {g lo hi : Nat} {zss : List (List Int)} (k : Own2 W g zss) (h : Touch lo hi W W') (hg : hi ≤ g) : Own2 W' g zss :=
  ⟨h.row k.top (.inr hg), fun r hr => h.row (k.row r hr) (.inr (by omega))⟩
end Go.Proofs.YtgndekojodpmkaaDoor

/- The walk of 'laws.FnExactCurveAt', from what the two functions give. -/
import Derived.Test.YtgndekojodpmkaaDoorCa
import Derived.Test.YtgndekojodpmkaaDoorMk2
import Derived.Deep.RegionHeld3
import Derived.Deep.CutRange
namespace Go.Proofs.YtgndekojodpmkaaDoor
open Go.ChangeShapes Go.WideShapes Go.ChangeAt Go.RowKit Go.Deep
set_option linter.unusedVariables false
namespace CurveAt

/-- What is carried over the second half. -/
structure Carry (v4 : World) (g1 : Nat) (z1 : List Int) (W : World) : Prop where
  e : Below v4.heap.size v4 W
  x1 : OwnI W g1 (.slice (some ⟨g1, 0, none⟩) z1.length z1.length) z1

theorem Carry.step {v4 : World} {g1 : Nat} {z1 : List Int} {W W' : World} (hb : Below W.heap.size W W') (k : Carry v4 g1 z1 W) : Carry v4 g1 z1 W' := ⟨chain k.e hb, k.x1.step hb⟩


set_option maxHeartbeats 4000000 in
set_option maxRecDepth 100000 in
theorem law_of (x0 : Int) (a1 : Option Addr) (z1 : List Int) (c1 : Nat) (x2 : Int) (rn : Int) (rc : Int) (w : World) (wf0 : (Lit.int .i64 x0).wf = true) (hr1 : Ints w a1 z1) (hl1 : z1.length ≤ 9223372036854775807) (wf2 : (Lit.int .i64 x2).wf = true)
    (GL : World → Prop) (hgl : ∀ W : World, Below w.heap.size w W → GL W)
    (hS : ∀ (b1 : Option Addr) (d1 : Nat) (W : World), Ints W b1 z1 → z1.length ≤ 1048576 → Calls Tryd.prog 14 #[.int .i64 x0, .slice b1 z1.length d1, .int .i64 x2] W (fun e w' => e = .returned (.tuple #[.int .i64 rn, .int .i64 rc]) ∧ Below W.heap.size W w'))
    (hI : ∀ (b1 : Option Addr) (d1 : Nat) (W : World), GL W → Ints W b1 z1 → z1.length ≤ 1048576 → Calls Tryd.prog 16 #[.int .i64 x0, .slice b1 z1.length d1, .int .i64 x2] W (fun e w' => e = .returned (.tuple #[.int .i64 rn, .int .i64 rc]) ∧ Below W.heap.size W w'))
     :
    Calls Tryd.prog 4 #[.int .i64 x0, .slice a1 z1.length c1, .int .i64 x2] w fun e w' => e = .returned (.bool true) ∧ Below w.heap.size w w' := by
  have HSP := Lib.hid hS
  have HIM := Lib.hid hI
  clear hS hI
  have HGL := Lib.hid hgl
  clear hgl
  by_cases hbig1 : 1048576 < z1.length
  · have t1 : (1048576 : Int) < (z1.length : Int) := by omega
    go_enter Tryd.func4, Tryd.ntmps4
    go_wp2_with fail
    go_ret
    exact ⟨rfl, by first | exact Below.refl _ _ | go_grown⟩
  have hs1 : z1.length ≤ 1048576 := by omega
  clear hbig1
  have D := Lib.hid (Below.refl w.heap.size w)
  have R1 := Lib.hid hr1
  clear hr1
  go_enter Tryd.func4, Tryd.ntmps4
  go_wp2_with fail
  skip
  refine (toInt64S_any a1 z1 c1 _ R1.out hs1).mono ?_
  rintro e w1 ⟨rfl, hz, hrow, hb⟩
  replace D := Lib.hid (chain D.out hb)
  replace R1 := Lib.hid (R1.out.step hb)
  have M1 := Lib.hid (Ints.of_row hrow)
  clear hb hrow hz
  go_wp2_with fail
  refine (HSP.out _ _ _ M1.out hs1).mono ?_
  rintro e w2 ⟨rfl, hb⟩
  replace D := Lib.hid (chain D.out hb)
  replace R1 := Lib.hid (R1.out.step hb)
  clear hb M1
  go_wp2_with fail
  generalize w2 = v4 at *
  have E := Lib.hid (Below.refl v4.heap.size v4)
  refine (toInt64S_any a1 z1 c1 _ (R1.out.step E.out) hs1).mono ?_
  rintro e w3 ⟨rfl, hz, hrow, hb⟩
  obtain ⟨g1, hg1⟩ : ∃ g, v4.heap.size = g := ⟨_, rfl⟩
  rw [hg1] at hrow hz ⊢
  have hlo : v4.heap.size ≤ g1 := by omega
  replace E := Lib.hid (chain E.out hb)
  have X1 := Lib.hid (own_of_row hrow (by unfold maxLen; omega))
  have G1 := Lib.hid (show v4.heap.size ≤ g1 ∧ g1 + 1 ≤ w3.heap.size from ⟨hlo, by omega⟩)
  clear hb hrow hz hg1 hlo
  go_wp2_with fail
  refine (HIM.out _ _ w3 (HGL.out _ (chain D.out E.out)) (Ints_of_own X1.out) hs1).mono ?_
  rintro e w4 ⟨rfl, hb⟩
  replace E := Lib.hid (chain E.out hb)
  replace X1 := Lib.hid (X1.out.step hb)
  clear hb
  go_wp2_with fail
  go_wp2_with fail
  refine (toInt64S_any a1 z1 c1 _ (R1.out.step E.out) hs1).mono ?_
  rintro e w5 ⟨rfl, hz, hrow, hb⟩
  replace E := Lib.hid (chain E.out hb)
  replace X1 := Lib.hid (X1.out.step hb)
  have Y := Lib.hid (Ints.of_row hrow)
  clear hb hrow hz
  go_wp2_with fail
  refine (eqInt64S_same _ _ z1 _ _ _ (Ints_of_own X1.out) Y.out (by omega)).mono ?_
  rintro e w6 ⟨rfl, hq⟩
  have hb := quiet_below hq
  replace E := Lib.hid (chain E.out hb)
  replace X1 := Lib.hid (X1.out.step hb)
  clear hb hq Y
  go_wp2_with fail
  go_ret
  exact ⟨rfl, D.out.trans (E.out.mono D.out.size)⟩
end CurveAt
end Go.Proofs.YtgndekojodpmkaaDoor

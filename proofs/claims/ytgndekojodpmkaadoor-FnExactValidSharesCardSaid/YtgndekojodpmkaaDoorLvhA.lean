/- The walk of 'laws.FnExactValidShares'; what the row's laid list gives. -/
import Derived.Test.YtgndekojodpmkaaDoorShi
import Derived.Test.YtgndekojodpmkaaDoorShv
import Derived.Test.YtgndekojodpmkaaDoorGlo
namespace Go.Proofs.YtgndekojodpmkaaDoor
open Go.ChangeShapes Go.WideShapes Go.ChangeAt Go.RowKit Go.Deep
set_option linter.unusedVariables false

set_option maxRecDepth 1000000 in
theorem glo_ir {W : World} (h : laidMetH Tryd.prog [laidI, laidR] W) : ∃ ai ar, GlobIR W ai ar := by
  obtain ⟨h1, h2⟩ := laidMetH_iff.1 h
  have hf : ([laidI, laidR].filter fun x => x.2.handleName?.isNone) = [laidI, laidR] := by kernel_rfl
  rw [hf] at h1
  obtain ⟨ai, ar, si, sr, hir⟩ := glo_two h1 glo_i glo_ti glo_r glo_tr
  exact ⟨ai, ar, si, sr⟩
namespace ValidShares
set_option maxHeartbeats 4000000 in
set_option maxRecDepth 100000 in
theorem law_of (x0 : Int) (a1 : Option Addr) (n1 : Nat) (z1 : List Int) (c1 : Nat) (w : World) (wf0 : (Lit.int .i64 x0).wf = true) (hr1 : Ints w a1 z1) (hz1 : z1.length = n1 * 2) (hl1 : n1 ≤ 9223372036854775807) (hglob : ∃ ai ar, GlobIR w ai ar) :
    Calls Tryd.prog 5 #[.int .i64 x0, .slice a1 n1 c1] w fun e w' => e = .returned (.bool true) ∧ Below w.heap.size w w' := by
  obtain ⟨ai, ar, hg⟩ := hglob
  obtain ⟨rb, hrb⟩ : ∃ rb, tell (ShsOk x0 z1 n1) = rb := ⟨_, rfl⟩
  have HRB := Lib.hid hrb
  have tb : (rb != rb) = false := by cases rb <;> rfl
  have HG := Lib.hid hg
  have HR := Lib.hid hr1
  have HZ := Lib.hid hz1
  clear hg hr1 hz1 hrb
  go_enter Tryd.func5, Tryd.ntmps5
  go_wp2_with fail
  refine (szShareS_any a1 n1 c1 1048576 _ (by omega) (by omega) hl1).mono ?_
  rintro e w1 ⟨⟨u, hu, rfl⟩, rfl⟩
  rcases hu with rfl | ⟨hu0, hu1, hs⟩
  · go_wp2_with fail
    go_ret
    exact ⟨rfl, Below.refl _ _⟩
  go_wp2_with fail
  refine (toShareS_any a1 n1 z1 c1 _ HR.out HZ.out hs).mono ?_
  rintro e w1 ⟨g1, rfl, hi1, hb1⟩
  have D1 := Lib.hid hb1
  have M1 := Lib.hid hi1
  clear hi1 hb1
  go_wp2_with fail
  refine (specVsh_any x0 _ z1 n1 _ _ M1.out HZ.out hs).mono ?_
  rintro e w2 ⟨rfl, hb2⟩
  rw [HRB.out]
  have D2 := Lib.hid (chain D1.out hb2)
  clear hb2 M1 D1
  go_wp2_with fail
  refine (toShareS_any a1 n1 z1 c1 _ (HR.out.step D2.out) HZ.out hs).mono ?_
  rintro e w3 ⟨g3, rfl, hi3, hb3⟩
  have D3 := Lib.hid (chain D2.out hb3)
  have M3 := Lib.hid hi3
  clear hi3 hb3 D2
  go_wp2_with fail
  refine (implVsh_any x0 _ z1 n1 _ ai ar _ (HG.out.step D3.out) M3.out HZ.out hs).mono ?_
  rintro e w4 ⟨rfl, hb4⟩
  rw [HRB.out]
  have D4 := Lib.hid (chain D3.out hb4)
  have M4 := Lib.hid (M3.out.step hb4)
  clear hb4 M3 D3
  go_wp2_with fail
  refine (toShareS_any a1 n1 z1 c1 _ (HR.out.step D4.out) HZ.out hs).mono ?_
  rintro e w5 ⟨g5, rfl, hi5, hb5⟩
  have D5 := Lib.hid (chain D4.out hb5)
  have M5 := Lib.hid (M4.out.step hb5)
  have Y5 := Lib.hid hi5
  clear hi5 hb5 D4 M4
  go_wp2_with fail
  refine (eqShareS_same _ _ n1 z1 _ _ _ M5.out Y5.out HZ.out hl1).mono ?_
  rintro e w6 ⟨rfl, hb6⟩
  have D6 := Lib.hid (chain D5.out hb6)
  clear hb6 D5
  go_wp2_with fail
  go_ret
  exact ⟨rfl, D6.out⟩
end ValidShares
end Go.Proofs.YtgndekojodpmkaaDoor

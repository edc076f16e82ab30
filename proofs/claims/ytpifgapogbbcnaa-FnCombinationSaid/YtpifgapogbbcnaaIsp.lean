/- IsSpanned: both contracts. -/
import Derived.Test.YtpifgapogbbcnaaSf
namespace Go.Proofs.Ytpifgapogbbcnaa
open Go.RowKit Go.Deep Go.Joins
set_option linter.unusedVariables false

noncomputable def isB (p c : Int) (z : List (List Int)) (v : List Int) : Bool := cbCode p c z v == 0
noncomputable def isCode (p c : Int) (z : List (List Int)) (v : List Int) : Int := if cbCode p c z v = 6 then 0 else cbCode p c z v

set_option maxRecDepth 100000 in
set_option maxHeartbeats 1000000 in
theorem implIs_any (p c : Int) (a : Option Addr) (z : List (List Int)) (ca : Nat) (av : Option Addr) (v : List Int) (cv : Nat) (w : World) (hr : Rows2 w a z) (hl : Lens z) (hv : Ints w av v) (hvl : v.length ≤ 9223372036854775807) :
    Calls Try.prog 8 #[.agg #[.int .i64 p, .int .i64 c, .slice a z.length ca], .slice av v.length cv] w fun e w' => e = .returned (.tuple #[.bool (isB p c z v), .int .i64 (isCode p c z v)]) ∧ Below w.heap.size w w' := by
  have hb1 := al_b w (.cells #[.int .i64 p, .int .i64 c, .slice a z.length ca] 26)
  have HR := Lib.hid (hr.below hb1 (Nat.le_refl _))
  have HV := Lib.hid (hv.below hb1 (Nat.le_refl _))
  have HB1 := Lib.hid hb1
  have HL := Lib.hid hl
  clear hr hv hb1 hl
  have HB := Lib.hid (show isB p c z v = (cbCode p c z v == 0) from rfl)
  have HC := Lib.hid (show isCode p c z v = if cbCode p c z v = 6 then 0 else cbCode p c z v from rfl)
  obtain ⟨y, hy⟩ : ∃ y, cbCode p c z v = y := ⟨_, rfl⟩
  have HY := Lib.hid hy
  rw [hy] at HB HC
  clear hy
  by_cases h6 : y = 6
  · subst h6
    go_enter Try.func8, Try.ntmps8
    go_wp2_with fail
    refine (implCb_any p c a z ca av v cv _ HR.out HL.out HV.out hvl).mono ?_
    rw [HY.out]
    rintro e w2 ⟨⟨u, rfl, -⟩, hb2⟩
    have HB2 := Lib.hid (HB1.out.trans (hb2.mono HB1.out.size))
    clear hb2
    go_wp2_with fail
    go_ret2
    exact ⟨by rw [HB.out, HC.out]; rfl, HB2.out⟩
  · have t6 : (y == 6) = false := by simpa using h6
    go_enter Try.func8, Try.ntmps8
    go_wp2_with fail
    refine (implCb_any p c a z ca av v cv _ HR.out HL.out HV.out hvl).mono ?_
    rw [HY.out]
    rintro e w2 ⟨⟨u, rfl, -⟩, hb2⟩
    have HB2 := Lib.hid (HB1.out.trans (hb2.mono HB1.out.size))
    clear hb2
    go_wp2_with fail
    go_ret2
    exact ⟨by rw [HB.out, HC.out, if_neg h6]; rfl, HB2.out⟩

end Go.Proofs.Ytpifgapogbbcnaa

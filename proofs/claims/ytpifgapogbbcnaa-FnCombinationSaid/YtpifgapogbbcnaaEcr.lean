/- RankOf of the program. -/
import Derived.Test.YtpifgapogbbcnaaEci
namespace Go.Proofs.Ytpifgapogbbcnaa
open Go.RowKit Go.Deep Go.Joins
set_option linter.unusedVariables false

theorem ec_len (p c : Int) (z : List (List Int)) : (((ecSel p c z [] (echZ p c.toNat z)).length : Nat) : Int) = ecSel p c z 0 ((echF p c.toNat z).length : Int) := by
  by_cases h : MatOk p c z
  · rw [ec_ok h, ec_ok h]
    unfold echZ
    rw [tab_len]
  · rw [ec_bad h, ec_bad h]; rfl

set_option maxRecDepth 100000 in
set_option maxHeartbeats 2000000 in
theorem implRo2_any (p c : Int) (a : Option Addr) (z : List (List Int)) (ca : Nat) (w : World) (hr : Rows2 w a z) (hl : Lens z) :
    Calls Try.prog 13 #[.agg #[.int .i64 p, .int .i64 c, .slice a z.length ca]] w fun e w' => e = .returned (.tuple #[.int .i64 (ecSel p c z 0 ((echF p c.toNat z).length : Int)), .int .i64 (ecSel p c z 1 0)]) ∧ Below w.heap.size w w' := by
  have hb1 := al_b w (.cells #[.int .i64 p, .int .i64 c, .slice a z.length ca] 26)
  have HR := Lib.hid (hr.step hb1)
  have HL := Lib.hid hl
  have HB1 := Lib.hid hb1
  clear hr hl hb1
  go_enter Try.func13, Try.ntmps13
  go_wp2_with fail
  refine (implEc_any p c a z ca _ HR.out HL.out).mono ?_
  generalize w.alloc (.cells #[.int .i64 p, .int .i64 c, .slice a z.length ca] 26) = w2 at *
  rintro e w3 ⟨⟨v, us, rfl, ho⟩, hb3⟩
  have HLN := Lib.hid (ec_len p c z)
  have HV := Lib.hid (show ecSel p c z 1 0 = ecSel p c z (1 : Int) 0 from rfl)
  generalize ecSel p c z [] (echZ p c.toNat z) = zz at *
  obtain ⟨va, vc, rfl⟩ := ho.form
  have HB := Lib.hid (HB1.out.trans (hb3.mono HB1.out.size))
  clear ho hb3
  go_wp2_with fail
  refine bodyPost_ret (v := .tuple #[.int .i64 ((zz.length : Nat) : Int), .int .i64 (ecSel p c z 1 0)]) (by simp [results, Try.results13, go_sem]) rfl ?_
  exact ⟨by rw [HLN.out], HB.out.trans ((al_b w3 _).mono HB.out.size)⟩
end Go.Proofs.Ytpifgapogbbcnaa

/- IsConsistent: both contracts. -/
import Derived.Test.YtekhjoenejgmaaaGos
namespace Go.Proofs.Ytekhjoenejgmaaa
open Go.RowKit Go.Deep Go.Joins
set_option linter.unusedVariables false

theorem solCode_eq (p : Int) (n : Nat) (z : List (List Int)) (v : List Int) : (solCode p n z v == 0) = tell (SolOk p n z v) := by
  by_cases h : SolOk p n z v
  · rw [(sol_yes h).2, tell_true h]; rfl
  · rw [(sol_no h).2, tell_false h]; rfl

set_option maxRecDepth 100000 in
set_option maxHeartbeats 1000000 in
theorem implIc_any (h f l : Int) (ao : Option Addr) (yo : List Int) (co : Nat) (a : Option Addr) (z : List (List Int)) (c : Nat) (ag : Option Addr) (gs : List Int) (cg : Nat) (ah : Option Addr) (hs : List Int) (ch : Nat) (w : World) (hr : InS w ao yo a z) (hl : LenS yo z) (hg : Ints w ag gs) (hlg : gs.length ≤ 9223372036854775807) (hh : Ints w ah hs) (hlh : hs.length ≤ 9223372036854775807) :
    Calls Try.prog 47 #[.agg #[.int .i64 h, .slice ao yo.length co, .int .i64 f, .int .i64 l, .slice a z.length c], .slice ag gs.length cg, .slice ah hs.length ch] w fun e w' => e = .returned (.tuple #[.bool (icB h f l yo z gs hs), .int .i64 (wiCode h f l yo z gs hs)]) ∧ Below w.heap.size w w' := by
  have HL := Lib.hid hl
  have hb1 := al_b w (.cells #[.int .i64 h, .slice ao yo.length co, .int .i64 f, .int .i64 l, .slice a z.length c] 33)
  have HX := Lib.hid (show Boxes (w.alloc (.cells #[.int .i64 h, .slice ao yo.length co, .int .i64 f, .int .i64 l, .slice a z.length c] 33)) w.heap.size 33 #[.int .i64 h, .slice ao yo.length co, .int .i64 f, .int .i64 l, .slice a z.length c] from World.alloc_heap_new w _)
  have HB1 := Lib.hid hb1
  have HR := Lib.hid (hr.step hb1)
  have HG := Lib.hid (hg.step hb1)
  have HH := Lib.hid (hh.step hb1)
  clear hr hl hb1 hg hh
  by_cases hok : (SchOk h yo f l z ∧ IsGrp h gs) ∧ RowOk f ((partI yo gs).length : Int) hs
  case neg =>
    have hc : (wiCode h f l yo z gs hs = 1 ∨ wiCode h f l yo z gs hs = 2) ∧ icB h f l yo z gs hs = false := by
      by_cases h1 : SchOk h yo f l z ∧ IsGrp h gs
      · have := wi_row h1 (hs := hs) fun q => hok ⟨h1, q⟩
        exact ⟨.inr this.1, this.2⟩
      · have := wi_grp (hs := hs) h1
        rw [this.2.1]
        exact ⟨this.1, this.2.2⟩
    have HC := Lib.hid hc.2
    have HNO := Lib.hid hok
    obtain ⟨y, hy⟩ : ∃ y, wiCode h f l yo z gs hs = y := ⟨_, rfl⟩
    have HY := Lib.hid hy
    rw [hy] at hc ⊢
    have t1 : (y != 0) = true := by rcases hc.1 with e | e <;> rw [e] <;> rfl
    have t2 : ¬ y = 0 := by rcases hc.1 with e | e <;> omega
    clear hok hc hy
    go_enter Try.func47, Try.ntmps47
    go_wp2_with fail
    refine (gridOfShares_any h f l ao yo co a z c ag gs cg ah hs ch _ HR.out HL.out HG.out hlg HH.out hlh).mono ?_
    rw [HY.out]
    rintro e w2 ⟨⟨xa, xm, xc, xf, xl, rfl, -⟩, hb2⟩
    have HB2 := Lib.hid (chain HB1.out hb2)
    clear hb2
    go_wp2_with fail
    go_ret2
    exact ⟨by rw [HC.out]; rfl, HB2.out.alloc HB2.out.size _⟩
  have HW := Lib.hid (wi_ok hok.1 hok.2)
  have HO := Lib.hid hok
  have hl1 : 1 ≤ l := hok.1.1.2.2.1
  have hl12 : l ≤ 12 := hok.1.1.2.1.2.1.2
  have HPG := Lib.hid (part_good hok.1.1 gs)
  have HPL := Lib.hid (show (partZ yo z gs).length ≤ 20 from by rw [partZ_len]; have := partI_len yo gs; have := hok.1.1.2.2.2.1; have := hok.1.1.2.1.2.2.1; omega)
  have HVO := Lib.hid (sn_yes (n := l.toNat) (show ValOk f (partZ yo z gs) hs from ⟨by rw [partZ_len]; have := hok.2.1; omega, hok.2.2⟩))
  clear hok
  go_enter Try.func47, Try.ntmps47
  go_wp2_with fail
  refine (gridOfShares_any h f l ao yo co a z c ag gs cg ah hs ch _ HR.out HL.out HG.out hlg HH.out hlh).mono ?_
  generalize w.alloc (.cells #[.int .i64 h, .slice ao yo.length co, .int .i64 f, .int .i64 l, .slice a z.length c] 33) = w1 at *
  rw [HW.out.1]
  rintro e w2 ⟨⟨xa, xm, xc, xf, xl, rfl, hk⟩, hb2⟩
  obtain ⟨rfl, rfl, rfl, hgr⟩ := hk HO.out
  obtain ⟨n, rfl⟩ : ∃ n : Nat, xl = (n : Int) := ⟨xl.toNat, by omega⟩
  simp only [Int.toNat_natCast] at HPG HVO HW
  have hb3 := al_b w2 (.cells #[.slice xa (partZ yo z gs).length xc, .int .i64 xf, .int .i64 (n : Int)] 78)
  have HX3 := Lib.hid (show Boxes (w2.alloc (.cells #[.slice xa (partZ yo z gs).length xc, .int .i64 xf, .int .i64 (n : Int)] 78)) w2.heap.size 78 #[.slice xa (partZ yo z gs).length xc, .int .i64 xf, .int .i64 (n : Int)] from World.alloc_heap_new w2 _)
  have HG3 := Lib.hid (hgr.step hb3)
  have HH3 := Lib.hid ((HH.out.step hb2).step hb3)
  have HB3 := Lib.hid ((chain HB1.out hb2).trans (hb3.mono (chain HB1.out hb2).size))
  have m0 := HX3.out.m0
  have m1 := HX3.out.m1
  have m2 := HX3.out.m2
  have ml := HX3.out.lt
  clear hk hgr hb2 hb3 HX HR HG HH HB1
  go_upto_region 4 with fail
  generalize w2.alloc (.cells #[.slice xa (partZ yo z gs).length xc, .int .i64 xf, .int .i64 (n : Int)] 78) = w3 at *
  go_wp2_with fail
  refine (solution_any xf n xa xc (partZ yo z gs) ah hs ch w3 HPG.out (by omega) HG3.out HH3.out hlh).mono ?_
  rintro e w4 ⟨⟨u, rfl, -⟩, hb4⟩
  have HB4 := Lib.hid (chain HB3.out hb4)
  have HE := Lib.hid (show (snCode xf n (partZ yo z gs) hs == 0) = icB h xf n yo z gs hs from by rw [HVO.out.2, solCode_eq, HW.out.2])
  clear hb4
  go_wp2_with fail
  go_ret2
  exact ⟨by rw [← HE.out, HW.out.1]; rfl, HB4.out⟩

set_option maxRecDepth 100000 in
set_option maxHeartbeats 1000000 in
theorem specIc_any (h f l : Int) (ao : Option Addr) (yo : List Int) (co : Nat) (a : Option Addr) (z : List (List Int)) (c : Nat) (ag : Option Addr) (gs : List Int) (cg : Nat) (ah : Option Addr) (hs : List Int) (ch : Nat) (w : World) (hr : InS w ao yo a z) (hl : LenS yo z) (hg : Ints w ag gs) (hlg : gs.length ≤ 9223372036854775807) (hh : Ints w ah hs) (hlh : hs.length ≤ 9223372036854775807) :
    Calls Try.prog 46 #[.agg #[.int .i64 h, .slice ao yo.length co, .int .i64 f, .int .i64 l, .slice a z.length c], .slice ag gs.length cg, .slice ah hs.length ch] w fun e w' => e = .returned (.tuple #[.bool (icB h f l yo z gs hs), .int .i64 (wiCode h f l yo z gs hs)]) ∧ Below w.heap.size w w' := by
  have HL := Lib.hid hl
  have hb1 := al_b w (.cells #[.int .i64 h, .slice ao yo.length co, .int .i64 f, .int .i64 l, .slice a z.length c] 33)
  have HX := Lib.hid (show Boxes (w.alloc (.cells #[.int .i64 h, .slice ao yo.length co, .int .i64 f, .int .i64 l, .slice a z.length c] 33)) w.heap.size 33 #[.int .i64 h, .slice ao yo.length co, .int .i64 f, .int .i64 l, .slice a z.length c] from World.alloc_heap_new w _)
  have HB1 := Lib.hid hb1
  have HR := Lib.hid (hr.step hb1)
  have HG := Lib.hid (hg.step hb1)
  have HH := Lib.hid (hh.step hb1)
  clear hr hl hb1 hg hh
  by_cases hok : (SchOk h yo f l z ∧ IsGrp h gs) ∧ RowOk f ((partI yo gs).length : Int) hs
  case neg =>
    have hc : (wiCode h f l yo z gs hs = 1 ∨ wiCode h f l yo z gs hs = 2) ∧ icB h f l yo z gs hs = false := by
      by_cases h1 : SchOk h yo f l z ∧ IsGrp h gs
      · have := wi_row h1 (hs := hs) fun q => hok ⟨h1, q⟩
        exact ⟨.inr this.1, this.2⟩
      · have := wi_grp (hs := hs) h1
        rw [this.2.1]
        exact ⟨this.1, this.2.2⟩
    have HC := Lib.hid hc.2
    obtain ⟨y, hy⟩ : ∃ y, wiCode h f l yo z gs hs = y := ⟨_, rfl⟩
    have HY := Lib.hid hy
    rw [hy] at hc ⊢
    have t1 : (y != 0) = true := by rcases hc.1 with e | e <;> rw [e] <;> rfl
    have t2 : ¬ y = 0 := by rcases hc.1 with e | e <;> omega
    clear hok hc hy
    go_enter Try.func46, Try.ntmps46
    go_wp2_with fail
    refine (l04With_any w.heap.size h f l ao yo co a z c ag gs cg ah hs ch _ HX.out HR.out HL.out HG.out hlg HH.out hlh).mono ?_
    rw [HY.out]
    rintro e w2 ⟨rfl, hb2⟩
    have HB2 := Lib.hid (chain HB1.out hb2)
    clear hb2
    go_wp2_with fail
    go_ret2
    exact ⟨by rw [HC.out]; rfl, HB2.out⟩
  have HW := Lib.hid (wi_ok hok.1 hok.2)
  have HO := Lib.hid hok
  have hl1 : 1 ≤ l := hok.1.1.2.2.1
  have hl12 : l ≤ 12 := hok.1.1.2.1.2.1.2
  have HPG := Lib.hid (part_good hok.1.1 gs)
  have HVL := Lib.hid (show hs.length = (partZ yo z gs).length from by rw [partZ_len]; have := hok.2.1; omega)
  clear hok
  go_enter Try.func46, Try.ntmps46
  go_wp2_with fail
  refine (l04With_any w.heap.size h f l ao yo co a z c ag gs cg ah hs ch _ HX.out HR.out HL.out HG.out hlg HH.out hlh).mono ?_
  generalize w.alloc (.cells #[.int .i64 h, .slice ao yo.length co, .int .i64 f, .int .i64 l, .slice a z.length c] 33) = w1 at *
  rw [HW.out.1]
  rintro e w2 ⟨rfl, hb2⟩
  have HB2 := Lib.hid (chain HB1.out hb2)
  have HR2 := Lib.hid (HR.out.step hb2)
  have HX2 := Lib.hid (HX.out.step hb2)
  have HG2 := Lib.hid (HG.out.step hb2)
  have HH2 := Lib.hid (HH.out.step hb2)
  clear hb2 HX HG HR HB1 HH
  go_wp2_with fail
  refine (l04Part_any w.heap.size h f l ao yo co a z c ag gs cg w2 HX2.out HR2.out HO.out.1.1 HG2.out hlg).mono ?_
  rintro e w3 ⟨⟨va, vc, us, rfl, ho⟩, hb3⟩
  obtain ⟨n, rfl⟩ : ∃ n : Nat, l = (n : Int) := ⟨l.toNat, by omega⟩
  simp only [Int.toNat_natCast] at HPG HW
  have hb4 := al_b w3 (.cells #[.int .i64 f, .int .i64 (n : Int), .slice va (partI yo gs).length vc] 31)
  have hbx : Boxes (w3.alloc (.cells #[.int .i64 f, .int .i64 (n : Int), .slice va (partI yo gs).length vc] 31)) w3.heap.size 31 #[.int .i64 f, .int .i64 ((n : Nat) : Int), .slice va (partZ yo z gs).length vc] := by
    rw [partZ_len]; exact World.alloc_heap_new w3 _
  have HBX := Lib.hid hbx
  have HRZ := Lib.hid ((own_rows3 ho).below hb4 (Nat.le_refl _))
  have HH4 := Lib.hid ((HH2.out.step hb3).step hb4)
  have HB4 := Lib.hid ((chain HB2.out hb3).trans (hb4.mono (chain HB2.out hb3).size))
  clear ho hbx hb4 hb3
  go_wp2_with fail
  refine (l03Solve_any w3.heap.size n vc ch f va ah (partZ yo z gs) hs _ HBX.out HRZ.out HPG.out (by omega) HH4.out HVL.out HO.out.2.2).mono ?_
  generalize w3.alloc (.cells #[.int .i64 f, .int .i64 (n : Int), .slice va (partI yo gs).length vc] 31) = w4 at *
  rintro e w5 ⟨⟨u, rfl, -⟩, hb5⟩
  have HB5 := Lib.hid (chain HB4.out hb5)
  clear hb5
  go_wp2_with fail
  go_ret2
  exact ⟨by rw [HW.out.2, HW.out.1]; rfl, HB5.out⟩
end Go.Proofs.Ytekhjoenejgmaaa

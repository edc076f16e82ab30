/- IsSpanned: both contracts. -/
import Derived.Test.YtekhjoenejgmaaaSf
namespace Go.Proofs.Ytekhjoenejgmaaa
open Go.RowKit Go.Deep Go.Joins
set_option linter.unusedVariables false

noncomputable def isB (p c : Int) (z : List (List Int)) (v : List Int) : Bool := cbCode p c z v == 0
noncomputable def isCode (p c : Int) (z : List (List Int)) (v : List Int) : Int := if cbCode p c z v = 6 then 0 else cbCode p c z v

set_option maxRecDepth 100000 in
set_option maxHeartbeats 1000000 in
theorem implIs_any (p c : Int) (a : Option Addr) (z : List (List Int)) (ca : Nat) (av : Option Addr) (v : List Int) (cv : Nat) (w : World) (hr : Rows2 w a z) (hl : Lens z) (hv : Ints w av v) (hvl : v.length ≤ 9223372036854775807) :
    Calls Try.prog 33 #[.agg #[.int .i64 p, .int .i64 c, .slice a z.length ca], .slice av v.length cv] w fun e w' => e = .returned (.tuple #[.bool (isB p c z v), .int .i64 (isCode p c z v)]) ∧ Below w.heap.size w w' := by
  have hb1 := al_b w (.cells #[.int .i64 p, .int .i64 c, .slice a z.length ca] 31)
  have HR := Lib.hid (hr.below hb1 (Nat.le_refl _))
  have HV := Lib.hid (hv.below hb1 (Nat.le_refl _))
  have HB1 := Lib.hid hb1
  have HL := Lib.hid hl
  clear hr hv hb1 hl
  have HB := Lib.hid (show isB p c z v = (cbCode p c z v == 0) from rfl)
  have HC := Lib.hid (show isCode p c z v = if cbCode p c z v = 6 then 0 else cbCode p c z v from rfl)
  obtain ⟨y, hy⟩ : ∃ y, cbCode p c z v = y := ⟨_, rfl⟩
  have HY := Lib.hid hy
  rw [hy] at HB HC
  clear hy
  by_cases h6 : y = 6
  · subst h6
    go_enter Try.func33, Try.ntmps33
    go_wp2_with fail
    refine (implCb_any p c a z ca av v cv _ HR.out HL.out HV.out hvl).mono ?_
    rw [HY.out]
    rintro e w2 ⟨⟨u, rfl, -⟩, hb2⟩
    have HB2 := Lib.hid (HB1.out.trans (hb2.mono HB1.out.size))
    clear hb2
    go_wp2_with fail
    go_ret2
    exact ⟨by rw [HB.out, HC.out]; rfl, HB2.out⟩
  · have t6 : (y == 6) = false := by simpa using h6
    go_enter Try.func33, Try.ntmps33
    go_wp2_with fail
    refine (implCb_any p c a z ca av v cv _ HR.out HL.out HV.out hvl).mono ?_
    rw [HY.out]
    rintro e w2 ⟨⟨u, rfl, -⟩, hb2⟩
    have HB2 := Lib.hid (HB1.out.trans (hb2.mono HB1.out.size))
    clear hb2
    go_wp2_with fail
    go_ret2
    exact ⟨by rw [HB.out, HC.out, if_neg h6]; rfl, HB2.out⟩

set_option maxRecDepth 100000 in
set_option maxHeartbeats 1000000 in
theorem specIs_any (p c : Int) (a : Option Addr) (z : List (List Int)) (ca : Nat) (av : Option Addr) (v : List Int) (cv : Nat) (w : World) (hr : Rows2 w a z) (hl : Lens z) (hv : Ints w av v) (hvl : v.length ≤ 9223372036854775807) :
    Calls Try.prog 32 #[.agg #[.int .i64 p, .int .i64 c, .slice a z.length ca], .slice av v.length cv] w fun e w' => e = .returned (.tuple #[.bool (isB p c z v), .int .i64 (isCode p c z v)]) ∧ Below w.heap.size w w' := by
  have hb1 := al_b w (.cells #[.int .i64 p, .int .i64 c, .slice a z.length ca] 31)
  have HX := Lib.hid (show Boxes (w.alloc (.cells #[.int .i64 p, .int .i64 c, .slice a z.length ca] 31)) w.heap.size 31 #[.int .i64 p, .int .i64 c, .slice a z.length ca] from World.alloc_heap_new w _)
  have HR := Lib.hid (hr.below hb1 (Nat.le_refl _))
  have HV := Lib.hid (hv.below hb1 (Nat.le_refl _))
  have HB1 := Lib.hid hb1
  have HL := Lib.hid hl
  clear hr hv hb1 hl
  go_enter Try.func32, Try.ntmps32
  go_wp2_with fail
  refine (asked_false w.heap.size p c a z ca av v cv _ HX.out HR.out HL.out HV.out hvl).mono ?_
  generalize w.alloc (.cells #[.int .i64 p, .int .i64 c, .slice a z.length ca] 31) = w1 at *
  rintro e w2 ⟨rfl, hq⟩
  have hb2 := quiet_below hq
  have HX2 := Lib.hid (HX.out.step hb2)
  have HB2 := Lib.hid (HB1.out.trans (hb2.mono HB1.out.size))
  have HR2 := Lib.hid (HR.out.below hb2 (Nat.le_refl _))
  have HV2 := Lib.hid (HV.out.below hb2 (Nat.le_refl _))
  have hs2 := HB2.out.size
  clear hb2 hq HX HR HV HB1
  by_cases hm : MatOk p c z ∧ RowOk p (c : Int) v
  case neg =>
    have hc : (askCode p c z v (c : Int) = 1 ∨ askCode p c z v (c : Int) = 2) ∧ cbZs p c z v = [] ∧ cbCode p c z v = askCode p c z v (c : Int) := cb_not hm
    have HC := Lib.hid (show isB p c z v = false ∧ isCode p c z v = askCode p c z v (c : Int) from by
      unfold isB isCode
      rw [hc.2.2]
      rcases hc.1 with e | e <;> rw [e] <;> exact ⟨rfl, rfl⟩)
    obtain ⟨y, hy⟩ : ∃ y, askCode p c z v (c : Int) = y := ⟨_, rfl⟩
    rw [hy] at hc HC ⊢
    have t1 : (y != 0) = true := by rcases hc.1 with e | e <;> rw [e] <;> rfl
    have t2 : ¬ y = 0 := by rcases hc.1 with e | e <;> omega
    clear hm hc hy
    go_wp2_with fail
    go_ret2
    exact ⟨by rw [HC.out.1, HC.out.2]; rfl, HB2.out⟩
  have HA := Lib.hid (ask_ok hm.1 hm.2)
  have HROK := Lib.hid hm.2
  have hcb := cb_ok (v := v) hm.1
  have HG := Lib.hid (GoodM.of hm.1)
  have hn12 : c ≤ 12 := hm.1.2.1.2
  have hz20 : z.length ≤ 20 := hm.1.2.2.1
  obtain ⟨n, rfl⟩ : ∃ n : Nat, c = (n : Int) := ⟨c.toNat, by have := hm.1.2.1.1; omega⟩
  clear hm
  rw [HA.out]
  simp only [Int.toNat_natCast] at HG hcb
  have HCB := Lib.hid hcb.2
  clear hcb
  have HSN := Lib.hid (sn_yes (n := z.length) (show ValOk p (turned z n) v from ⟨by unfold turned; rw [tab_len]; have := HROK.out.1; omega, HROK.out.2⟩))
  go_wp2_with fail
  refine (l03Combine_any w.heap.size n ca cv p a av z v w2 HX2.out HR2.out HG.out (by omega) (by omega) HV2.out (by have := HROK.out.1; omega) HROK.out.2).mono ?_
  rintro e w3 ⟨⟨u, rfl, -⟩, hb3⟩
  have HB3 := Lib.hid (HB2.out.trans (hb3.mono hs2))
  clear hb3
  by_cases hs : SolOk p z.length (turned z n) v
  · have HT := Lib.hid (tell_true hs)
    have HC := Lib.hid (show isB p n z v = true ∧ isCode p n z v = 0 from by unfold isB isCode; rw [HCB.out, HSN.out.2, (sol_yes hs).2]; exact ⟨rfl, rfl⟩)
    clear hs
    rw [HT.out]
    go_wp2_with fail
    go_ret2
    exact ⟨by rw [HC.out.1, HC.out.2]; rfl, HB3.out⟩
  · have HT := Lib.hid (tell_false hs)
    have HC := Lib.hid (show isB p n z v = false ∧ isCode p n z v = 0 from by unfold isB isCode; rw [HCB.out, HSN.out.2, (sol_no hs).2]; exact ⟨rfl, rfl⟩)
    clear hs
    rw [HT.out]
    go_wp2_with fail
    go_ret2
    exact ⟨by rw [HC.out.1, HC.out.2]; rfl, HB3.out⟩
end Go.Proofs.Ytekhjoenejgmaaa

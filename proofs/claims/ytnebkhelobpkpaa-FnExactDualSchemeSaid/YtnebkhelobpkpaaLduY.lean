/- Cpr Ns Sk Ei0 Rd6 Rd7 Tri Tur Sf Oel Ds0 Mso Dot Shm Shs Pr0 Pri Sho Shr Shp DuL Kpi Ksm Tu2 Td4 in one text. -/
import Derived.Test.YtnebkhelobpkpaaVs
import Derived.Test.YtnebkhelobpkpaaNs0
import Derived.Test.YtnebkhelobpkpaaCp3
import Derived.Test.YtnebkhelobpkpaaSo0
import Derived.Test.YtnebkhelobpkpaaGti
import Derived.Test.YtnebkhelobpkpaaKe0
import Derived.Test.YtnebkhelobpkpaaTra
import Derived.Test.YtnebkhelobpkpaaSn
import Derived.Test.YtnebkhelobpkpaaSl
import Derived.Test.YtnebkhelobpkpaaGwi
import Derived.Test.YtnebkhelobpkpaaLpa
import Derived.Deep.RegionHeld3
import Derived.Test.YtnebkhelobpkpaaVm
import Derived.BigQuiet
import Derived.Test.YtnebkhelobpkpaaOw
import Derived.Deep.AppendLies
import Derived.Deep.RegionLaw
import Derived.Deep.CutRange
import Derived.Lib.SliceRun
import Derived.Test.YtnebkhelobpkpaaCc2
import Derived.Test.YtnebkhelobpkpaaGl
import Derived.Test.YtnebkhelobpkpaaRd5
import Derived.Test.YtnebkhelobpkpaaGk
import Derived.BigRegion
import Derived.Test.YtnebkhelobpkpaaElt
namespace Go.Proofs.Ytnebkhelobpkpaa
open Go.RowKit Go.Deep
set_option linter.unusedVariables false

/-- The code of two schemes that are to be joined. -/
noncomputable def pairCode (h f l : Int) (yo : List Int) (z : List (List Int)) (h1 f1 l1 : Int) (yp : List Int) (y : List (List Int)) : Int :=
  if tell (SchOk h yo f l z ∧ SchOk h1 yp f1 l1 y) = true then (if h = h1 ∧ f = f1 then 0 else 2) else 1
theorem pc_bad {h f l h1 f1 l1 : Int} {yo yp : List Int} {z y : List (List Int)} (k : ¬ (SchOk h yo f l z ∧ SchOk h1 yp f1 l1 y)) : pairCode h f l yo z h1 f1 l1 yp y = 1 := by unfold pairCode; rw [tell_false k]; rfl
theorem pc_rng {h f l h1 f1 l1 : Int} {yo yp : List Int} {z y : List (List Int)} (k : SchOk h yo f l z ∧ SchOk h1 yp f1 l1 y) (q : ¬ (h = h1 ∧ f = f1)) : pairCode h f l yo z h1 f1 l1 yp y = 2 := by unfold pairCode; rw [tell_true k, if_pos rfl, if_neg q]
theorem pc_ok {h f l h1 f1 l1 : Int} {yo yp : List Int} {z y : List (List Int)} (k : SchOk h yo f l z ∧ SchOk h1 yp f1 l1 y) (q : h = h1 ∧ f = f1) : pairCode h f l yo z h1 f1 l1 yp y = 0 := by unfold pairCode; rw [tell_true k, if_pos rfl, if_pos q]

set_option maxRecDepth 100000 in
set_option maxHeartbeats 2000000 in
theorem checkPair_any (h f l : Int) (ao : Option Addr) (yo : List Int) (co : Nat) (a : Option Addr) (z : List (List Int)) (c : Nat) (h1 f1 l1 : Int) (bo : Option Addr) (yp : List Int) (eo : Nat) (b : Option Addr) (y : List (List Int)) (d : Nat) (w : World) (ha : InS w ao yo a z) (hb : InS w bo yp b y) (hla : LenS yo z) (hlb : LenS yp y) :
    Calls Try.prog 93 #[.agg #[.int .i64 h, .slice ao yo.length co, .int .i64 f, .int .i64 l, .slice a z.length c], .agg #[.int .i64 h1, .slice bo yp.length eo, .int .i64 f1, .int .i64 l1, .slice b y.length d]] w fun e w' => e = .returned (.int .i64 (pairCode h f l yo z h1 f1 l1 yp y)) ∧ Below w.heap.size w w' := by
  have HLA := Lib.hid hla
  have HLB := Lib.hid hlb
  have hb1 : Below w.heap.size w ((w.alloc (.cells #[.int .i64 h, .slice ao yo.length co, .int .i64 f, .int .i64 l, .slice a z.length c] 48)).alloc (.cells #[.int .i64 h1, .slice bo yp.length eo, .int .i64 f1, .int .i64 l1, .slice b y.length d] 48)) := ((Below.refl w.heap.size w).alloc (Nat.le_refl _) _).alloc (by simp) _
  have hx : Boxes ((w.alloc (.cells #[.int .i64 h, .slice ao yo.length co, .int .i64 f, .int .i64 l, .slice a z.length c] 48)).alloc (.cells #[.int .i64 h1, .slice bo yp.length eo, .int .i64 f1, .int .i64 l1, .slice b y.length d] 48)) w.heap.size 48 #[.int .i64 h, .slice ao yo.length co, .int .i64 f, .int .i64 l, .slice a z.length c] := Boxes.step (World.alloc_heap_new w _) ((Below.refl _ _).alloc (Nat.le_refl _) _)
  have hy : Boxes ((w.alloc (.cells #[.int .i64 h, .slice ao yo.length co, .int .i64 f, .int .i64 l, .slice a z.length c] 48)).alloc (.cells #[.int .i64 h1, .slice bo yp.length eo, .int .i64 f1, .int .i64 l1, .slice b y.length d] 48)) (w.heap.size + 1) 48 #[.int .i64 h1, .slice bo yp.length eo, .int .i64 f1, .int .i64 l1, .slice b y.length d] := by
    have : Boxes ((w.alloc (.cells #[.int .i64 h, .slice ao yo.length co, .int .i64 f, .int .i64 l, .slice a z.length c] 48)).alloc (.cells #[.int .i64 h1, .slice bo yp.length eo, .int .i64 f1, .int .i64 l1, .slice b y.length d] 48)) (w.alloc (.cells #[.int .i64 h, .slice ao yo.length co, .int .i64 f, .int .i64 l, .slice a z.length c] 48)).heap.size 48 #[.int .i64 h1, .slice bo yp.length eo, .int .i64 f1, .int .i64 l1, .slice b y.length d] := World.alloc_heap_new _ _
    simp only [World.size_alloc] at this
    exact this
  have HA := Lib.hid (ha.step hb1)
  have HB := Lib.hid (hb.step hb1)
  clear ha hb hla hlb
  go_enter Try.func93, Try.ntmps93
  go_wp2_with fail
  refine (implVs_any h f l ao yo co a z c _ HA.out HLA.out).mono ?_
  generalize ((w.alloc (.cells #[.int .i64 h, .slice ao yo.length co, .int .i64 f, .int .i64 l, .slice a z.length c] 48)).alloc (.cells #[.int .i64 h1, .slice bo yp.length eo, .int .i64 f1, .int .i64 l1, .slice b y.length d] 48)) = w2 at *
  rintro e w3 ⟨rfl, hb3⟩
  have PX := Lib.hid (hx.step hb3)
  have PY := Lib.hid (hy.step hb3)
  have HB3 := Lib.hid (chain hb1 hb3)
  have HBB := Lib.hid (HB.out.step hb3)
  clear hb1 hx hy hb3 HA HB
  have a0 := PX.out.s0
  have b0 := PY.out.s0
  have a1 := PX.out.s1
  have b1 := PY.out.s1
  have a2 := PX.out.s2
  have b2 := PY.out.s2
  have a3 := PX.out.s3
  have b3 := PY.out.s3
  have a4 := PX.out.s4
  have b4 := PY.out.s4
  by_cases hm : SchOk h yo f l z
  case neg =>
    have HT := Lib.hid (tell_false hm)
    have HN := Lib.hid (pc_bad (h := h) (f := f) (l := l) (yo := yo) (z := z) (h1 := h1) (f1 := f1) (l1 := l1) (yp := yp) (y := y) (fun q => hm q.1))
    clear hm
    rw [HT.out]
    go_wp2_with fail
    go_ret
    exact ⟨ret_i64 HN.out.symm, HB3.out⟩
  have HT := Lib.hid (tell_true hm)
  have HM := Lib.hid hm
  clear hm
  rw [HT.out]
  go_wp2_with fail
  refine (implVs_any h1 f1 l1 bo yp eo b y d _ HBB.out HLB.out).mono ?_
  clear a0 b0 a1 b1 a2 b2 a3 b3 a4 b4
  rintro e w4 ⟨rfl, hb4⟩
  have QX := Lib.hid (PX.out.step hb4)
  have QY := Lib.hid (PY.out.step hb4)
  have HB4 := Lib.hid (chain HB3.out hb4)
  clear hb4 PX PY HB3 HBB
  have a0 := QX.out.s0
  have b0 := QY.out.s0
  have a1 := QX.out.s1
  have b1 := QY.out.s1
  have a2 := QX.out.s2
  have b2 := QY.out.s2
  have a3 := QX.out.s3
  have b3 := QY.out.s3
  have a4 := QX.out.s4
  have b4 := QY.out.s4
  by_cases hm : SchOk h1 yp f1 l1 y
  case neg =>
    have HT := Lib.hid (tell_false hm)
    have HN := Lib.hid (pc_bad (h := h) (f := f) (l := l) (yo := yo) (z := z) (h1 := h1) (f1 := f1) (l1 := l1) (yp := yp) (y := y) (fun q => hm q.2))
    clear hm
    rw [HT.out]
    go_wp2_with fail
    go_ret
    exact ⟨ret_i64 HN.out.symm, HB4.out⟩
  have HT2 := Lib.hid (tell_true hm)
  have HM2 := Lib.hid hm
  clear hm
  rw [HT2.out]
  by_cases e1 : h = h1
  case neg =>
    have t1 : (h != h1) = true := by simp [e1]
    have HN := Lib.hid (pc_rng ⟨HM.out, HM2.out⟩ (fun q => e1 q.1))
    clear e1
    go_wp2_with fail
    go_ret
    exact ⟨ret_i64 HN.out.symm, HB4.out⟩
  have t1 : (h != h1) = false := by simp [e1]
  by_cases e2 : f = f1
  case neg =>
    have t2 : (f != f1) = true := by simp [e2]
    have HN := Lib.hid (pc_rng ⟨HM.out, HM2.out⟩ (fun q => e2 q.2))
    clear e1 e2
    go_wp2_with fail
    go_ret
    exact ⟨ret_i64 HN.out.symm, HB4.out⟩
  have t2 : (f != f1) = false := by simp [e2]
  have HN := Lib.hid (pc_ok ⟨HM.out, HM2.out⟩ ⟨e1, e2⟩)
  clear e1 e2
  go_wp2_with fail
  go_ret
  exact ⟨ret_i64 HN.out.symm, HB4.out⟩

/-- Rows whose capacity is not less than their length. -/
def RowsC (w : World) (a : Option Addr) (zss : List (List Int)) : Prop :=
  zss = [] ∨ ∃ b o, a = some ⟨b, o, none⟩ ∧ ∀ i, i < zss.length → ∃ ai ci, w.cell? ⟨b, o + i, none⟩ = some (.slice ai (nthL zss i).length ci) ∧ Ints w ai (nthL zss i) ∧ (nthL zss i).length ≤ ci
theorem RowsC.rows2 {w : World} {a : Option Addr} {zss : List (List Int)} (h : RowsC w a zss) : Rows2 w a zss := by
  rcases h with h | ⟨b, o, e, hc⟩
  · exact .inl h
  · exact .inr ⟨b, o, e, fun i hi => by obtain ⟨ai, ci, h1, h2, _⟩ := hc i hi; exact ⟨ai, ci, h1, h2⟩⟩
theorem RowsC.step {w w' : World} {a : Option Addr} {zss : List (List Int)} (hb : Below w.heap.size w w') (h : RowsC w a zss) : RowsC w' a zss := by
  rcases h with h | ⟨b, o, e, hc⟩
  · exact .inl h
  · exact .inr ⟨b, o, e, fun i hi => by obtain ⟨ai, ci, h1, h2, h3⟩ := hc i hi; exact ⟨ai, ci, cell_step hb h1, h2.step hb, h3⟩⟩
end Go.Proofs.Ytnebkhelobpkpaa

namespace Go.Proofs.Ytnebkhelobpkpaa
open Go.RowKit Go.Deep
set_option linter.unusedVariables false

set_option maxRecDepth 100000 in
set_option maxHeartbeats 4000000 in
theorem newScheme_any (h p : Int) (cn : Nat) (va : Option Addr) (n vc base : Nat) (yo : List Int) (z : List (List Int)) (w : World) (hcn : cn ≤ 12) (hn : n ≤ 20) (ho : OwnR w base (.slice va n vc) yo z n) (hyo : yo.length = n) (hz : z.length = n) (hrow : ∀ r, r < n → (nthL z r).length = cn) :
    Calls Try.prog 88 #[.int .i64 h, .int .i64 p, .int .i64 (cn : Int), .slice va n vc] w (GivesSY w h p cn yo z 0) := by
  obtain ⟨i0, hi, hz0, hz1, hz2⟩ := info_parts Try.infoInt64
  obtain ⟨i1, ji, jz0, jz1, jz2⟩ := info_parts Try.infoInt64S
  have HV := Lib.hid ho
  have HRW := Lib.hid hrow
  have HYO := Lib.hid hyo
  have HZL := Lib.hid hz
  have hc0 : ¬ (12 < (cn : Int)) := by omega
  have hn0 : ¬ ((20 : Int) < (n : Int)) := by omega
  clear ho hrow hyo hz
  go_enter Try.func88, Try.ntmps88
  go_wp2_with fail
  have hb1 : Below w.heap.size w ((w.alloc (.cells #[.int .i64 0, .slice none 0 0, .int .i64 0, .int .i64 0, .slice none 0 0] 48)).alloc (.cells #[.int .i64 h, .slice none 0 0, .int .i64 p, .int .i64 (cn : Int), .slice none 0 0] 48)) := ((Below.refl w.heap.size w).alloc (Nat.le_refl _) _).alloc (by simp) _
  have hx8 : Boxes ((w.alloc (.cells #[.int .i64 0, .slice none 0 0, .int .i64 0, .int .i64 0, .slice none 0 0] 48)).alloc (.cells #[.int .i64 h, .slice none 0 0, .int .i64 p, .int .i64 (cn : Int), .slice none 0 0] 48)) w.heap.size 48 #[.int .i64 0, .slice none 0 0, .int .i64 0, .int .i64 0, .slice none 0 0] := Boxes.step (World.alloc_heap_new w _) ((Below.refl _ _).alloc (Nat.le_refl _) _)
  have hx10 : Boxes ((w.alloc (.cells #[.int .i64 0, .slice none 0 0, .int .i64 0, .int .i64 0, .slice none 0 0] 48)).alloc (.cells #[.int .i64 h, .slice none 0 0, .int .i64 p, .int .i64 (cn : Int), .slice none 0 0] 48)) (w.heap.size + 1) 48 #[.int .i64 h, .slice none 0 0, .int .i64 p, .int .i64 (cn : Int), .slice none 0 0] := by
    have : Boxes ((w.alloc (.cells #[.int .i64 0, .slice none 0 0, .int .i64 0, .int .i64 0, .slice none 0 0] 48)).alloc (.cells #[.int .i64 h, .slice none 0 0, .int .i64 p, .int .i64 (cn : Int), .slice none 0 0] 48)) (w.alloc (.cells #[.int .i64 0, .slice none 0 0, .int .i64 0, .int .i64 0, .slice none 0 0] 48)).heap.size 48 #[.int .i64 h, .slice none 0 0, .int .i64 p, .int .i64 (cn : Int), .slice none 0 0] := World.alloc_heap_new _ _
    simp only [World.size_alloc] at this
    exact this
  generalize ((w.alloc (.cells #[.int .i64 0, .slice none 0 0, .int .i64 0, .int .i64 0, .slice none 0 0] 48)).alloc (.cells #[.int .i64 h, .slice none 0 0, .int .i64 p, .int .i64 (cn : Int), .slice none 0 0] 48)) = w2 at *
  have HB1 := Lib.hid hb1
  have HX8 := Lib.hid hx8
  have HX10 := Lib.hid hx10
  clear hb1 hx8 hx10
  go_loopw [12, 28] (fun q12 i wr => ∃ (k : Nat) (so sa : Option Addr) (sc sac : Nat) (us : List Value), k ≤ n ∧ i = .int .i64 k ∧ Boxes wr w.heap.size 48 #[.int .i64 0, .slice none 0 0, .int .i64 0, .int .i64 0, .slice none 0 0] ∧ Boxes wr (w.heap.size + 1) 48 #[.int .i64 h, .slice so k sc, .int .i64 p, .int .i64 (cn : Int), .slice sa k sac] ∧ OwnI wr (w.heap.size + 2) (.slice so k sc) (yo.take k) ∧ Own wr (w.heap.size + 2) (.slice sa k sac) us (z.take k) ∧ Sep us (.slice so k sc) ∧ Below w.heap.size w wr)
    (fun _ i _ => n - (intOf i).toNat)
  case atStart => exact ⟨0, none, none, 0, 0, [], Nat.zero_le _, rfl, HX8.out, HX10.out, OwnI.nil _ _, Own.nil3 _ _, Sep.nil _, HB1.out⟩
  case round =>
    obtain ⟨k, so, sa, sc, sac, us, hk, rfl, hx8, hx10, hoI, hoR, hsep, hb⟩ := hrel
    have b0 := hx10.s0
    have b1 := hx10.s1
    have b2 := hx10.s2
    have b3 := hx10.s3
    have b4 := hx10.s4
    have bl := hx10.lt
    have D8 := Lib.hid hx8
    have D10 := Lib.hid hx10
    have DI := Lib.hid hoI
    have DR := Lib.hid hoR
    have DS := Lib.hid hsep
    have DB := Lib.hid hb
    clear hx8 hx10 hoI hoR hsep hb HX8 HX10 HB1
    by_cases hlt : k < n
    · obtain ⟨g, hva, hcs⟩ := ownR_cells (show OwnR wr base (.slice va n vc) yo z n from row_step HV.out (DB.out.mono (Nat.le_refl _))) hlt
      subst hva
      have y0 : wr.cell? ⟨g, k * 13, none⟩ = some (.int .i64 (nth yo k)) := hcs 0 (by decide)
      have y1 : wr.cell? ⟨g, k * 13 + 1, none⟩ = some (.int .i64 (nth (nthL z k) 0)) := hcs 1 (by decide)
      have y2 : wr.cell? ⟨g, k * 13 + 2, none⟩ = some (.int .i64 (nth (nthL z k) 1)) := hcs 2 (by decide)
      have y3 : wr.cell? ⟨g, k * 13 + 3, none⟩ = some (.int .i64 (nth (nthL z k) 2)) := hcs 3 (by decide)
      have y4 : wr.cell? ⟨g, k * 13 + 4, none⟩ = some (.int .i64 (nth (nthL z k) 3)) := hcs 4 (by decide)
      have y5 : wr.cell? ⟨g, k * 13 + 5, none⟩ = some (.int .i64 (nth (nthL z k) 4)) := hcs 5 (by decide)
      have y6 : wr.cell? ⟨g, k * 13 + 6, none⟩ = some (.int .i64 (nth (nthL z k) 5)) := hcs 6 (by decide)
      have y7 : wr.cell? ⟨g, k * 13 + 7, none⟩ = some (.int .i64 (nth (nthL z k) 6)) := hcs 7 (by decide)
      have y8 : wr.cell? ⟨g, k * 13 + 8, none⟩ = some (.int .i64 (nth (nthL z k) 7)) := hcs 8 (by decide)
      have y9 : wr.cell? ⟨g, k * 13 + 9, none⟩ = some (.int .i64 (nth (nthL z k) 8)) := hcs 9 (by decide)
      have y10 : wr.cell? ⟨g, k * 13 + 10, none⟩ = some (.int .i64 (nth (nthL z k) 9)) := hcs 10 (by decide)
      have y11 : wr.cell? ⟨g, k * 13 + 11, none⟩ = some (.int .i64 (nth (nthL z k) 10)) := hcs 11 (by decide)
      have y12 : wr.cell? ⟨g, k * 13 + 12, none⟩ = some (.int .i64 (nth (nthL z k) 11)) := hcs 12 (by decide)
      have hi0 : (k : Int) < (n : Int) := by omega
      have HTY := Lib.hid (take_snoc1 yo (show k < yo.length by have := HYO.out; omega))
      have HTZ := Lib.hid (take_snoc z (show k < z.length by have := HZL.out; omega))
      have HLY := Lib.hid (show (yo.take k).length = k by rw [List.length_take]; have := HYO.out; omega)
      have HLZ := Lib.hid (show (z.take k).length = k by rw [List.length_take]; have := HZL.out; omega)
      have HLZ1 := Lib.hid (show (z.take (k + 1)).length = k + 1 by rw [List.length_take]; have := HZL.out; omega)
      have HRL := Lib.hid (HRW.out k hlt)
      generalize nthL z k = row at *
      generalize nth yo k = own at *
      have HDI := Lib.hid (show wr.ownsRow (w.heap.size + 2) 2 1 (.slice so k sc) k (vals (yo.take k)) by have := DI.out; unfold OwnI at this; rw [HLY.out] at this; exact this)
      have HRr0 := Lib.hid (show wr.ownsRow (w.heap.size + 2) 35 1 (.slice sa k sac) k us by have := DR.out.row; rw [HLZ.out] at this; exact this)
      have HBA := Lib.hid (show Below wr.heap.size wr ((wr.alloc (.cells #[.int .i64 own, .int .i64 (nth row 0), .int .i64 (nth row 1), .int .i64 (nth row 2), .int .i64 (nth row 3), .int .i64 (nth row 4), .int .i64 (nth row 5), .int .i64 (nth row 6), .int .i64 (nth row 7), .int .i64 (nth row 8), .int .i64 (nth row 9), .int .i64 (nth row 10), .int .i64 (nth row 11)] 139)).alloc (.cells #[.int .i64 own] 2)) from ((Below.refl wr.heap.size wr).alloc (Nat.le_refl _) _).alloc (by simp) _)
      clear hcs DI b0 b2 b3 b4
      go_wp2_with (at_builtin; refine wpList_append_lies _ rfl _ _ 35 rfl (w.heap.size + 2) 2 i0 (.int .i64 0) 1 8 Try.underlying35 hi hz0 hz1 hz2 rfl (by decide) (.slice so k sc) k (vals (yo.take k)) rfl (World.ownsRow.alloc (World.ownsRow.alloc HDI.out _) _) ⟨wr.heap.size + 1, 0, none⟩ 1 1 [.int .i64 own] rfl rfl (by have := cell_one_new (wr.alloc (.cells #[.int .i64 own, .int .i64 (nth row 0), .int .i64 (nth row 1), .int .i64 (nth row 2), .int .i64 (nth row 3), .int .i64 (nth row 4), .int .i64 (nth row 5), .int .i64 (nth row 6), .int .i64 (nth row 7), .int .i64 (nth row 8), .int .i64 (nth row 9), .int .i64 (nth row 10), .int .i64 (nth row 11)] 139)) (.int .i64 own) 2; simp only [World.size_alloc] at this; exact this) (by simp [Value.oneCell']) (by decide) (by unfold maxLen; omega) (by omega) (by simp; omega) _ rfl ?_; intro g1 cap1 w7 hown7 hgrow7 hat7 hlt7; have hx7 := (D10.out.step HBA.out).grown hgrow7 (row_ge HDI.out (Nat.lt_succ_self _)); have t1 := hx7.s1; have tf1 := hx7.frozen 1; have tl1 := hx7.lt)
      have h10 := hx7.set51 (.slice (some ⟨g1, 0, none⟩) (k + 1) cap1)
      have h8 : Boxes (w7.setCell ⟨w.heap.size + 1, 1, none⟩ (.slice (some ⟨g1, 0, none⟩) (k + 1) cap1)) w.heap.size 48 #[.int .i64 0, .slice none 0 0, .int .i64 0, .int .i64 0, .slice none 0 0] := ((D8.out.step HBA.out).grown hgrow7 (row_ge HDI.out (by omega))).otherB (by omega)
      have h12 : Boxes (w7.setCell ⟨w.heap.size + 1, 1, none⟩ (.slice (some ⟨g1, 0, none⟩) (k + 1) cap1)) wr.heap.size 139 (oc own row).toArray := (Boxes.grown (Boxes.step (show Boxes (wr.alloc (.cells #[.int .i64 own, .int .i64 (nth row 0), .int .i64 (nth row 1), .int .i64 (nth row 2), .int .i64 (nth row 3), .int .i64 (nth row 4), .int .i64 (nth row 5), .int .i64 (nth row 6), .int .i64 (nth row 7), .int .i64 (nth row 8), .int .i64 (nth row 9), .int .i64 (nth row 10), .int .i64 (nth row 11)] 139)) wr.heap.size 139 (oc own row).toArray from World.alloc_heap_new wr _) ((Below.refl _ _).alloc (Nat.le_refl _) (.cells #[.int .i64 own] 2))) hgrow7 (fun e => by have := row_lt HDI.out e; omega)).otherB (by omega)
      have h8I : OwnI (w7.setCell ⟨w.heap.size + 1, 1, none⟩ (.slice (some ⟨g1, 0, none⟩) (k + 1) cap1)) (w.heap.size + 2) (.slice (some ⟨g1, 0, none⟩) (k + 1) cap1) (yo.take (k + 1)) := by
        unfold OwnI
        rw [HTY.out, vals_snoc, List.length_append, HLY.out]
        exact row_set hown7 (Nat.lt_succ_self _) _
      have h8r : (w7.setCell ⟨w.heap.size + 1, 1, none⟩ (.slice (some ⟨g1, 0, none⟩) (k + 1) cap1)).ownsRow (w.heap.size + 2) 35 1 (.slice sa k sac) k us := row_set (row_other (World.ownsRow.alloc (World.ownsRow.alloc HRr0.out _) _) (World.ownsRow.alloc (World.ownsRow.alloc HDI.out _) _) hgrow7 (by decide)) (Nat.lt_succ_self _) _
      have h8R : RowsOwn (w7.setCell ⟨w.heap.size + 1, 1, none⟩ (.slice (some ⟨g1, 0, none⟩) (k + 1) cap1)) (w.heap.size + 2) us (z.take k) := (RowsOwn.kept (DR.out.rows.map fun u zs k => k.step HBA.out) hgrow7 DS.out.arm).map fun u zs k => row_set k (Nat.lt_succ_self _) _
      have h8S : Sep us (.slice (some ⟨g1, 0, none⟩) (k + 1) cap1) := DS.out.first DR.out.rows hat7 (by simp; omega)
      have h8B : Below w.heap.size w (w7.setCell ⟨w.heap.size + 1, 1, none⟩ (.slice (some ⟨g1, 0, none⟩) (k + 1) cap1)) := ((DB.out.trans (HBA.out.mono DB.out.size)).grown hgrow7 (by simp; omega) (fun q hq => by have := row_lt HDI.out hq; omega)).setCell (p := ⟨w.heap.size + 1, 1, none⟩) (Nat.le_succ _) _
      have hg1 : g1 < (w7.setCell ⟨w.heap.size + 1, 1, none⟩ (.slice (some ⟨g1, 0, none⟩) (k + 1) cap1)).heap.size := by simpa using hlt7
      generalize w7.setCell ⟨w.heap.size + 1, 1, none⟩ (.slice (some ⟨g1, 0, none⟩) (k + 1) cap1) = w8 at *
      have x4 := h10.s4
      have xf4 := h10.frozen 4
      have xl := h10.lt
      have hs8 : w.heap.size + 2 ≤ w8.heap.size := xl
      have H10 := Lib.hid h10
      have H8 := Lib.hid h8
      have I12 := Lib.hid (ints_of_box h12 (by rw [HRL.out]; exact hcn))
      have HI8 := Lib.hid h8I
      have HRr := Lib.hid h8r
      have HRo := Lib.hid h8R
      have HS8 := Lib.hid h8S
      have HB8 := Lib.hid h8B
      generalize wr.heap.size = q12 at *
      clear h10 h8 h12 h8I h8r h8R h8S h8B hx7 t1 tf1 tl1 hown7 hgrow7 hat7 hlt7 b1 bl y0 y1 y2 y3 y4 y5 y6 y7 y8 y9 y10 y11 y12
      go_region_law (first | (go_simp; go_at_call 136; refine (clone_eq q12 1 cn row 12 _ HRL.out (by first | exact I12.out | exact I12.out.step (drew_step _)) (by omega)).mono ?_; rintro e w9 ⟨⟨v9, rfl, ho9⟩, hb9⟩; have HB9 := Lib.hid (show Below w8.heap.size w8 w9 by first | exact hb9 | exact (drew_step w8).trans hb9); have HO9 := Lib.hid (show OwnI w9 w8.heap.size v9 row from ho9); obtain ⟨ra, rc, hr9⟩ := rowForm ho9; rw [HRL.out] at hr9; subst hr9; clear ho9 hb9; have y4 := (H10.out.step HB9.out).s4; have yf := (H10.out.step HB9.out).frozen 4; have yl : w.heap.size + 1 < w9.heap.size := (H10.out.step HB9.out).lt; have yl2 : w.heap.size + 1 < w9.heap.size + 1 := (by omega)) | (refine step_append_lies _ (by rfl) _ _ 36 (by rfl) (w.heap.size + 2) 35 i1 (.slice none 0 0) 1 24 Try.underlying36 ji jz0 jz1 jz2 (by rfl) (by decide) (.slice sa k sac) k us (by simp [Act.eval]) (by first | exact World.ownsRow.alloc (row_step HRr.out HB9.out) _ | exact row_step (World.ownsRow.alloc (row_step HRr.out HB9.out) _) (drew_step _) | exact World.ownsRow.alloc (row_step (row_step HRr.out HB9.out) (drew_step _)) _) ⟨w9.heap.size, 0, none⟩ 1 1 [.slice ra cn rc] (by simp [Act.eval]) (by rfl) (by first | exact cell_one_new _ _ _ | (intro j u hj; exact cell_one_new w9 _ _ j u hj)) (by simp [Value.oneCell']) (by decide) (by unfold maxLen; omega) (by omega) (by simp; omega) _ rfl ?_; intro g2 cap2 w10 hown10 hgrow10 hat10 hlt10; have hx10 := Boxes.grown (Boxes.step (H10.out.step HB9.out) (by first | exact (Below.refl _ _).alloc (Nat.le_refl _) _ | exact ((Below.refl _ _).alloc (Nat.le_refl _) _).drew | exact (Below.refl _ _).drew.alloc (Nat.le_refl _) _)) hgrow10 (row_ge HRr.out (Nat.lt_succ_self _)); have t4 := hx10.s4; have tf := hx10.frozen 4; have tl := hx10.lt))
      all_goals (
        have HX10 := Lib.hid hx10
        have H10w := Lib.hid hown10
        have HX8 := Lib.hid (show Boxes w10 w.heap.size 48 #[.int .i64 0, .slice none 0 0, .int .i64 0, .int .i64 0, .slice none 0 0] from Boxes.grown (Boxes.step (H8.out.step HB9.out) (by first | exact (Below.refl _ _).alloc (Nat.le_refl _) _ | exact ((Below.refl _ _).alloc (Nat.le_refl _) _).drew | exact (Below.refl _ _).drew.alloc (Nat.le_refl _) _)) hgrow10 (row_ge HRr.out (by omega)))
        have HI10 := Lib.hid (show OwnI w10 (w.heap.size + 2) (.slice (some ⟨g1, 0, none⟩) (k + 1) cap1) (yo.take (k + 1)) by
          first
          | exact row_other (World.ownsRow.alloc (row_step HI8.out HB9.out) _) (World.ownsRow.alloc (row_step HRr.out HB9.out) _) hgrow10 (by decide)
          | exact row_other (row_step (World.ownsRow.alloc (row_step HI8.out HB9.out) _) (drew_step _)) (row_step (World.ownsRow.alloc (row_step HRr.out HB9.out) _) (drew_step _)) hgrow10 (by decide)
          | exact row_other (World.ownsRow.alloc (row_step (row_step HI8.out HB9.out) (drew_step _)) _) (World.ownsRow.alloc (row_step (row_step HRr.out HB9.out) (drew_step _)) _) hgrow10 (by decide))
        have HR10 := Lib.hid (show RowsOwn w10 (w.heap.size + 2) (us ++ [.slice ra cn rc]) (z.take (k + 1)) by
          rw [HTZ.out]
          refine (HRo.out.snoc HB9.out HO9.out hs8).map fun u zs ho => ?_
          first
          | exact row_other (World.ownsRow.alloc ho _) (World.ownsRow.alloc (row_step HRr.out HB9.out) _) hgrow10 (by decide)
          | exact row_other (row_step (World.ownsRow.alloc ho _) (drew_step _)) (row_step (World.ownsRow.alloc (row_step HRr.out HB9.out) _) (drew_step _)) hgrow10 (by decide)
          | exact row_other (World.ownsRow.alloc (row_step ho (drew_step _)) _) (World.ownsRow.alloc (row_step (row_step HRr.out HB9.out) (drew_step _)) _) hgrow10 (by decide))
        have HS10 := Lib.hid (HS8.out.snoc hg1 HO9.out)
        have HB10 := Lib.hid (show Below w.heap.size w w10 from Below.grown (by first | exact (HB8.out.trans (HB9.out.mono (by omega))).alloc (by omega) _ | exact ((HB8.out.trans (HB9.out.mono (by omega))).alloc (by omega) _).drew | exact (HB8.out.trans (HB9.out.mono (by omega))).drew.alloc (by simp; omega) _) hgrow10 (by simp only [World.size_alloc]; omega) (fun q hq => by have := row_lt HRr.out hq; omega))
        clear hx10 hown10 hgrow10 hat10 hlt10
        go_wp2_with fail
        go_roundw
        case rel => exact ⟨k + 1, some ⟨g1, 0, none⟩, some ⟨g2, 0, none⟩, cap1, cap2, us ++ [.slice ra cn rc], by omega, by go_num, HX8.out.otherB (by omega), HX10.out.set54 _, row_set HI10.out (Nat.lt_succ_self _) _, ⟨by rw [HLZ1.out]; exact row_set H10w.out (Nat.lt_succ_self _) _, HR10.out.map fun u zs ho => row_set ho (Nat.lt_succ_self _) _⟩, HS10.out, HB10.out.setCell (p := ⟨w.heap.size + 1, 4, none⟩) (Nat.le_succ _) _⟩
        case measure => simp [intOf]; omega)
    · have HE := Lib.hid (show k = n by omega)
      have hty : yo.take k = yo := List.take_of_length_le (by have := HYO.out; omega)
      have htz : z.take k = z := List.take_of_length_le (by have := HZL.out; omega)
      have hI := DI.out
      have hR := DR.out
      rw [hty] at hI
      rw [htz] at hR
      have HI9 := Lib.hid hI
      have HR9 := Lib.hid hR
      have r0 := D8.out.s0
      have rf0 := D8.out.frozen 0
      have r1 := D8.out.s1
      have rf1 := D8.out.frozen 1
      have r2 := D8.out.s2
      have rf2 := D8.out.frozen 2
      have r3 := D8.out.s3
      have rf3 := D8.out.frozen 3
      have r4 := D8.out.s4
      have rf4 := D8.out.frozen 4
      have rl := D8.out.lt
      clear hI hR hty htz
      go_wp2_with fail
      refine bodyPost_ret (v := .tuple #[.agg #[.int .i64 h, .slice so k sc, .int .i64 p, .int .i64 (cn : Int), .slice sa k sac], .int .i64 0]) (by simp [results, Try.results88, go_sem, r0, r1, r2, r3, r4]) rfl ⟨⟨(.slice so k sc), (.slice sa k sac), us, rfl, ?_, ?_, DS.out⟩, ?_⟩
      · exact OwnI.mono (base := w.heap.size + 2) (row_set (row_set (row_set (row_set (row_set (HI9.out) (show w.heap.size < w.heap.size + 2 by omega) _) (show w.heap.size < w.heap.size + 2 by omega) _) (show w.heap.size < w.heap.size + 2 by omega) _) (show w.heap.size < w.heap.size + 2 by omega) _) (show w.heap.size < w.heap.size + 2 by omega) _) (by omega)
      · exact ((((((HR9.out.setCell3 (p := ⟨w.heap.size, 0, none⟩) (by show w.heap.size < w.heap.size + 2; omega) _).setCell3 (p := ⟨w.heap.size, 1, none⟩) (by show w.heap.size < w.heap.size + 2; omega) _).setCell3 (p := ⟨w.heap.size, 2, none⟩) (by show w.heap.size < w.heap.size + 2; omega) _).setCell3 (p := ⟨w.heap.size, 3, none⟩) (by show w.heap.size < w.heap.size + 2; omega) _).setCell3 (p := ⟨w.heap.size, 4, none⟩) (by show w.heap.size < w.heap.size + 2; omega) _)).mono3 (by omega)
      · exact (((((DB.out.setCell (p := ⟨w.heap.size, 0, none⟩) (Nat.le_refl _) _).setCell (p := ⟨w.heap.size, 1, none⟩) (Nat.le_refl _) _).setCell (p := ⟨w.heap.size, 2, none⟩) (Nat.le_refl _) _).setCell (p := ⟨w.heap.size, 3, none⟩) (Nat.le_refl _) _).setCell (p := ⟨w.heap.size, 4, none⟩) (Nat.le_refl _) _)
end Go.Proofs.Ytnebkhelobpkpaa

namespace Go.Proofs.Ytnebkhelobpkpaa
open Go.RowKit Go.Deep
set_option linter.unusedVariables false

/-- A box of one type. -/
def IsBox (W : World) (B : Nat) (t : TypeId) : Prop := ∃ vs, W.heap[B]? = some (.cells vs t (0, 0))
theorem Boxes.is {W : World} {B : Nat} {t : TypeId} {vs : Array Value} (h : Boxes W B t vs) : IsBox W B t := ⟨vs, h⟩
theorem IsBox.set {W : World} {B : Nat} {t : TypeId} (h : IsBox W B t) (b o : Nat) (u : Value) : IsBox (W.setCell ⟨b, o, none⟩ u) B t := by
  obtain ⟨vs, hv⟩ := h
  by_cases e : b = B
  · subst e
    refine ⟨vs.setIfInBounds o u, ?_⟩
    simp [World.setCell, Array.getElem?_modify, hv]
  · exact ⟨vs, by rw [Below.heap_setCell _ _ _ B (fun q => e q.symm)]; exact hv⟩
theorem IsBox.step {W W' : World} {B : Nat} {t : TypeId} (h : IsBox W B t) (hb : Below W.heap.size W W') : IsBox W' B t := by
  obtain ⟨vs, hv⟩ := h
  exact ⟨vs, (hb.block B (Array.getElem?_eq_some_iff.1 hv).1).trans hv⟩
theorem row_setb {W : World} {base e size k B o : Nat} {t : TypeId} {v : Value} {xs : List Value} (h : W.ownsRow base e size v k xs) (hx : IsBox W B t) (he : e ≠ t) (u : Value) : (W.setCell ⟨B, o, none⟩ u).ownsRow base e size v k xs := by
  refine h.kept ⟨rfl, rfl, rfl, (KeepsWalks.setCell W _ u).size, fun q _ hq => Below.heap_setCell _ _ _ q (fun e => hq (by rw [e]))⟩ (row := some B) ?_
  rcases h.2 with ⟨rfl, _⟩ | ⟨g, cap, cur, rfl, hg, hgb, _⟩
  · exact .inl rfl
  · refine .inr fun e' => ?_
    obtain rfl : g = B := by simpa [Value.ownBlock] using e'
    obtain ⟨vs, hv⟩ := hx
    rw [hgb] at hv; cases hv; exact he rfl
theorem rows_setb {W : World} {base B o : Nat} {t : TypeId} {us : List Value} {z : List (List Int)} (h : RowsOwn W base us z) (hx : IsBox W B t) (he : 2 ≠ t) (u : Value) : RowsOwn (W.setCell ⟨B, o, none⟩ u) base us z := h.map fun _ _ k => row_setb k hx he u
theorem rows_oneS {W : World} {base : Nat} {us : List Value} {z : List (List Int)} (h : RowsOwn W base us z) : ∀ u ∈ us, u.oneCell' = true := fun u hu => by
  obtain ⟨i, hi, rfl⟩ := List.mem_iff_getElem.1 hu
  obtain ⟨a, c, e⟩ := (h.own i us[i] (z[i]'(by rw [← h.len]; exact hi)) (by simp [hi]) (by simp)).form
  rw [e]; rfl
theorem Boxes.all3 {W : World} {B : Nat} {t : TypeId} {u0 u1 u2 : Value} (h : Boxes W B t #[u0, u1, u2]) (x0 x1 x2 : Value) : Boxes (((W.setCell ⟨B, 0, none⟩ x0).setCell ⟨B, 1, none⟩ x1).setCell ⟨B, 2, none⟩ x2) B t #[x0, x1, x2] := by
  unfold Boxes at h ⊢
  simp [World.setCell, Array.getElem?_modify, h]
/-- Rows, and others behind them. -/
theorem rows2_cat {W : World} {B1 B2 B3 n c : Nat} {a : Option Addr} {us us2 : List Value} {z y : List (List Int)} (hr : W.ownsRow B1 35 1 (.slice a n c) (z.length + y.length) (us ++ us2)) (h1 : RowsOwn W B2 us z) (h2 : RowsOwn W B3 us2 y) :
    n = (z ++ y).length ∧ Rows2 W a (z ++ y) := by
  obtain ⟨a', c', e⟩ := rowForm hr
  cases e
  refine ⟨by simp, ?_⟩
  rcases hr.2 with ⟨hv, hn⟩ | ⟨g, cap, cur, hv, _⟩
  · exact .inl (List.eq_nil_of_length_eq_zero (by simpa using hn))
  · cases hv
    refine .inr ⟨g, 0, rfl, fun i hi => ?_⟩
    rw [Nat.zero_add, World.ownsRow.cellAt hr i (by simpa using hi)]
    by_cases hz : i < z.length
    · have hu : i < us.length := by rw [h1.len]; exact hz
      obtain ⟨a2, c2, e2, hI, _⟩ := (h1.own i us[i] z[i] (by simp [hu]) (by simp [hz])).ints
      have e3 : nthL (z ++ y) i = z[i] := by rw [nthL_lt hi]; simp [hz]
      rw [e3, List.getElem?_append_left hu, List.getElem?_eq_getElem hu, e2]
      exact ⟨a2, c2, rfl, hI⟩
    · have hy : i - z.length < y.length := by simp at hi; omega
      have hu : i - us.length < us2.length := by rw [h2.len, h1.len]; exact hy
      obtain ⟨a2, c2, e2, hI, _⟩ := (h2.own (i - us.length) us2[i - us.length] (y[i - z.length]) (by simp [hu]) (by rw [h1.len]; simp [hy])).ints
      have e3 : nthL (z ++ y) i = y[i - z.length] := by rw [nthL_lt hi, List.getElem_append_right (by omega)]
      rw [e3, List.getElem?_append_right (by rw [h1.len]; omega), List.getElem?_eq_getElem hu, e2]
      exact ⟨a2, c2, rfl, hI⟩

theorem RowsOwn.cat {W : World} {B M : Nat} {us us2 : List Value} {z y : List (List Int)} (h1 : RowsOwn W B us z) (h2 : RowsOwn W M us2 y) (hB : B ≤ M) (hlt : ∀ u ∈ us, ∀ b, u.ownBlock = some b → b < M) : RowsOwn W B (us ++ us2) (z ++ y) := by
  refine ⟨by simp [h1.len, h2.len], fun i u zs e1 e2 => ?_, ?_⟩
  · by_cases hi : i < us.length
    · rw [List.getElem?_append_left hi] at e1
      rw [List.getElem?_append_left (by rw [← h1.len]; exact hi)] at e2
      exact h1.own i u zs e1 e2
    · rw [List.getElem?_append_right (by omega)] at e1
      rw [List.getElem?_append_right (by rw [← h1.len]; omega), ← h1.len] at e2
      exact (h2.own _ u zs e1 e2).mono hB
  · refine List.pairwise_append.2 ⟨h1.sep, h2.sep, fun u1 hu1 u2 hu2 b b' e1 e2 => ?_⟩
    obtain ⟨i, hi, rfl⟩ := List.mem_iff_getElem.1 hu2
    have h3 := (h2.own i us2[i] (y[i]'(by rw [← h2.len]; exact hi)) (by simp [hi]) (by simp)).lt e2
    have := hlt u1 hu1 b e1
    omega
/-- What two matrices one over the other give. -/
noncomputable def skSel {α : Type} (p c : Int) (z : List (List Int)) (q d : Int) (y : List (List Int)) (bad rng lim ok : α) : α :=
  if tell (MatOk p c z ∧ MatOk q d y) = true then (if p = q ∧ c = d then (if z.length + y.length ≤ 20 then ok else lim) else rng) else bad
theorem sk_bad {α : Type} {p c q d : Int} {z y : List (List Int)} (h : ¬ (MatOk p c z ∧ MatOk q d y)) (b r l o : α) : skSel p c z q d y b r l o = b := by unfold skSel; rw [tell_false h]; rfl
theorem sk_rng {α : Type} {p c q d : Int} {z y : List (List Int)} (h : MatOk p c z ∧ MatOk q d y) (h2 : ¬ (p = q ∧ c = d)) (b r l o : α) : skSel p c z q d y b r l o = r := by unfold skSel; rw [tell_true h, if_pos rfl, if_neg h2]
theorem sk_lim {α : Type} {p c q d : Int} {z y : List (List Int)} (h : MatOk p c z ∧ MatOk q d y) (h2 : p = q ∧ c = d) (h3 : ¬ z.length + y.length ≤ 20) (b r l o : α) : skSel p c z q d y b r l o = l := by unfold skSel; rw [tell_true h, if_pos rfl, if_pos h2, if_neg h3]
theorem sk_ok {α : Type} {p c q d : Int} {z y : List (List Int)} (h : MatOk p c z ∧ MatOk q d y) (h2 : p = q ∧ c = d) (h3 : z.length + y.length ≤ 20) (b r l o : α) : skSel p c z q d y b r l o = o := by unfold skSel; rw [tell_true h, if_pos rfl, if_pos h2, if_pos h3]
theorem mat_small3 {p c : Int} {z : List (List Int)} (h : MatOk p c z) : Small2 z := ⟨by have := h.2.2.1; omega, fun r hr => by have := (h.2.2.2 r hr).1; have := h.2.1.2; omega⟩
theorem nthL_cat (z y : List (List Int)) {r : Nat} (h : r < (z ++ y).length) : nthL (z ++ y) r = if r < z.length then nthL z r else nthL y (r - z.length) := by
  split
  · next hz => rw [nthL_lt h, nthL_lt hz]; simp [hz]
  · next hz => rw [nthL_lt h, nthL_lt (show r - z.length < y.length by simp at h; omega), List.getElem_append_right (by omega)]
theorem mat_cat {p c : Int} {z y : List (List Int)} (h1 : MatOk p c z) (h2 : MatOk p c y) : MatOk p c (z ++ y) ↔ z.length + y.length ≤ 20 := by
  refine ⟨fun h => by have := h.2.2.1; simpa using this, fun h => ⟨h1.1, h1.2.1, by simpa using h, fun r hr => ?_⟩⟩
  rw [nthL_cat z y hr]
  split
  · next hz => exact h1.2.2.2 r hz
  · next hz => exact h2.2.2.2 _ (by simp at hr; omega)
theorem small_cat {p c q d : Int} {z y : List (List Int)} (h1 : MatOk p c z) (h2 : MatOk q d y) : Small2 (z ++ y) := by
  refine ⟨by have := h1.2.2.1; have := h2.2.2.1; simp; omega, fun r hr => ?_⟩
  rw [nthL_cat z y hr]
  split
  · next hz => exact (mat_small3 h1).2 r hz
  · next hz => exact (mat_small3 h2).2 _ (by simp at hr; omega)
theorem sk_small (p c : Int) (z : List (List Int)) (q d : Int) (y : List (List Int)) : Small2 (skSel p c z q d y [] [] [] (z ++ y)) := by
  have h0 : Small2 [] := ⟨by simp, fun r hr => absurd hr (Nat.not_lt_zero _)⟩
  unfold skSel
  split
  · next h =>
    split
    · split
      · exact small_cat (of_tell h).1 (of_tell h).2
      · exact h0
    · exact h0
  · exact h0

end Go.Proofs.Ytnebkhelobpkpaa

namespace Go.Proofs.Ytnebkhelobpkpaa
open Go.RowKit Go.Deep
set_option linter.unusedVariables false

def padR (m : Nat) (z : List (List Int)) : List (List Int) := z.map fun r => r ++ List.replicate m 0
def midR (m : Nat) (y : List (List Int)) : List (List Int) := y.map fun r => r.take 1 ++ (List.replicate m 0 ++ r.drop 1)
def eitherRows (m0 m1 : Nat) (z y : List (List Int)) : List (List Int) := padR m0 z ++ midR m1 y
theorem either_len (m0 m1 : Nat) (z y : List (List Int)) : (eitherRows m0 m1 z y).length = z.length + y.length := by simp [eitherRows, padR, midR]
theorem nthL_map (f : List Int → List Int) (z : List (List Int)) {i : Nat} (h : i < z.length) : nthL (z.map f) i = f (nthL z i) := by
  rw [nthL_lt (by simpa using h), nthL_lt h]; simp
theorem nth_cat (a b : List Int) (i : Nat) : nth (a ++ b) i = if i < a.length then nth a i else nth b (i - a.length) := by
  unfold nth List.getD
  by_cases h : i < a.length
  · rw [if_pos h, List.getElem?_append_left h]
  · rw [if_neg h, List.getElem?_append_right (by omega)]
theorem nth_zeros (m j : Nat) : nth (List.replicate m 0) j = 0 := by
  unfold nth List.getD
  rw [List.getElem?_replicate]
  split <;> rfl
theorem either_left {m0 m1 : Nat} {z y : List (List Int)} {i : Nat} (h : i < z.length) : nthL (eitherRows m0 m1 z y) i = nthL z i ++ List.replicate m0 0 := by
  have hl : i < (padR m0 z).length := by simpa [padR] using h
  unfold eitherRows
  rw [nthL_cat _ _ (by rw [List.length_append]; omega), if_pos hl]
  exact nthL_map _ z h
theorem either_right {m0 m1 : Nat} {z y : List (List Int)} {i : Nat} (h : i < y.length) : nthL (eitherRows m0 m1 z y) (z.length + i) = (nthL y i).take 1 ++ (List.replicate m1 0 ++ (nthL y i).drop 1) := by
  have hp : (padR m0 z).length = z.length := by simp [padR]
  have hm : (midR m1 y).length = y.length := by simp [midR]
  unfold eitherRows
  rw [nthL_cat _ _ (by rw [List.length_append, hp, hm]; omega), if_neg (by rw [hp]; omega), hp, Nat.add_sub_cancel_left]
  exact nthL_map _ y h
theorem ei_start (m0 m1 : Nat) {yo yp : List Int} {z y : List (List Int)} (hn : yo.length = z.length) : ocs yo z yo.length = ocs (yo ++ yp) (eitherRows m0 m1 z y) z.length := by
  rw [hn]
  refine ocs_congr fun i hi => ⟨by rw [nth_cat, if_pos (by omega)], fun j hj => ?_⟩
  rw [either_left hi, nth_cat]
  split
  · rfl
  · rw [nth_zeros, nth_out (by omega)]
theorem ei_snoc (m0 m1 : Nat) {yo yp : List Int} {z y : List (List Int)} {k : Nat} (hn : yo.length = z.length) (hk : k < y.length) : ocs (yo ++ yp) (eitherRows m0 m1 z y) (z.length + (k + 1)) = ocs (yo ++ yp) (eitherRows m0 m1 z y) (z.length + k) ++ oc (nth yp k) ((nthL y k).take 1 ++ (List.replicate m1 0 ++ (nthL y k).drop 1)) := by
  rw [← Nat.add_assoc, ocs_snoc, either_right hk, nth_cat, if_neg (by omega), hn, Nat.add_sub_cancel_left]
theorem ei_rows {m0 m1 : Nat} {z y : List (List Int)} (hz : ∀ r, r < z.length → (nthL z r).length = m1 + 1) (hy : ∀ r, r < y.length → (nthL y r).length = m0 + 1) : ∀ r, r < z.length + y.length → (nthL (eitherRows m0 m1 z y) r).length = m1 + m0 + 1 := by
  intro r hr
  by_cases h : r < z.length
  · rw [either_left h, List.length_append, hz r h, List.length_replicate]; omega
  · obtain ⟨i, rfl⟩ : ∃ i, r = z.length + i := ⟨r - z.length, by omega⟩
    rw [either_right (by omega), List.length_append, List.length_append, List.length_take, List.length_drop, List.length_replicate, hy i (by omega)]; omega
theorem rows2_three {w : World} {g n0 n1 n2 c0 c1 c2 : Nat} {a0 a1 a2 : Option Addr} {r0 r1 r2 : List Int} (h0 : w.cell? ⟨g, 0, none⟩ = some (.slice a0 n0 c0)) (h1 : w.cell? ⟨g, 1, none⟩ = some (.slice a1 n1 c1)) (h2 : w.cell? ⟨g, 2, none⟩ = some (.slice a2 n2 c2))
    (e0 : r0.length = n0) (e1 : r1.length = n1) (e2 : r2.length = n2) (i0 : Ints w a0 r0) (i1 : Ints w a1 r1) (i2 : Ints w a2 r2) : Rows2 w (some ⟨g, 0, none⟩) [r0, r1, r2] := by
  subst e0; subst e1; subst e2
  refine .inr ⟨g, 0, rfl, fun i hi => ?_⟩
  match i, hi with
  | 0, _ => exact ⟨a0, c0, h0, i0⟩
  | 1, _ => exact ⟨a1, c1, h1, i1⟩
  | 2, _ => exact ⟨a2, c2, h2, i2⟩
  | i + 3, hi => exact absurd hi (by simp)
theorem three_small {r0 r1 r2 : List Int} (h0 : r0.length ≤ 1000) (h1 : r1.length ≤ 1000) (h2 : r2.length ≤ 1000) : ∀ r, r < [r0, r1, r2].length → (nthL [r0, r1, r2] r).length ≤ 1000 := by
  intro r hr
  match r, hr with
  | 0, _ => exact h0
  | 1, _ => exact h1
  | 2, _ => exact h2
  | r + 3, hr => exact absurd hr (by simp)
theorem ints_take {w : World} {b o : Nat} {r : List Int} (h : Ints w (some ⟨b, o, none⟩) r) : Ints w (some ⟨b, o, none⟩) (r.take 1) := by
  rcases h with h | ⟨b', o', e, hc⟩
  · subst h; exact .inl rfl
  · refine .inr ⟨b', o', e, fun i hi => ?_⟩
    have hi2 : i < r.length := by simp at hi; omega
    rw [hc i hi2, nth_lt hi, nth_lt hi2]; simp
theorem ints_drop {w : World} {b o : Nat} {r : List Int} (h : Ints w (some ⟨b, o, none⟩) r) : Ints w (some ⟨b, o + 1, none⟩) (r.drop 1) := by
  rcases h with h | ⟨b', o', e, hc⟩
  · subst h; exact .inl rfl
  · cases e
    refine .inr ⟨b, o + 1, rfl, fun i hi => ?_⟩
    have hi2 : i + 1 < r.length := by simp at hi; omega
    have := hc (i + 1) hi2
    rw [show o + 1 + i = o + (i + 1) by omega, this, nth_lt hi, nth_lt hi2]
    simp
theorem newScheme_eq (h p c : Int) (cn : Nat) (va : Option Addr) (n vc base : Nat) (yo : List Int) (z : List (List Int)) (w : World) (hc : c = (cn : Int)) (hcn : cn ≤ 12) (hn : n ≤ 20) (ho : OwnR w base (.slice va n vc) yo z n) (hyo : yo.length = n) (hz : z.length = n) (hrow : ∀ r, r < n → (nthL z r).length = cn) :
    Calls Try.prog 88 #[.int .i64 h, .int .i64 p, .int .i64 c, .slice va n vc] w (GivesSY w h p c yo z 0) := by
  subst hc; exact newScheme_any h p cn va n vc base yo z w hcn hn ho hyo hz hrow
/-- What two schemes give: nothing for bad ones, for such of other holders or primes, for too many rows or columns; else what is wanted. -/
noncomputable def eiSel {α : Type} (h f l : Int) (yo : List Int) (z : List (List Int)) (h1 f1 l1 : Int) (yp : List Int) (y : List (List Int)) (bad rng lim ok : α) : α :=
  if pairCode h f l yo z h1 f1 l1 yp y = 1 then bad else if pairCode h f l yo z h1 f1 l1 yp y = 2 then rng else if tell (l + l1 - 1 ≤ 12 ∧ z.length + y.length ≤ 20) = true then ok else lim
theorem ei_bad {h f l h1 f1 l1 : Int} {yo yp : List Int} {z y : List (List Int)} (k : pairCode h f l yo z h1 f1 l1 yp y = 1) {α : Type} (b r m o : α) : eiSel h f l yo z h1 f1 l1 yp y b r m o = b := by unfold eiSel; rw [if_pos k]
theorem ei_rng {h f l h1 f1 l1 : Int} {yo yp : List Int} {z y : List (List Int)} (k : pairCode h f l yo z h1 f1 l1 yp y = 2) {α : Type} (b r m o : α) : eiSel h f l yo z h1 f1 l1 yp y b r m o = r := by unfold eiSel; rw [if_neg (by rw [k]; decide), if_pos k]
theorem ei_lim {h f l h1 f1 l1 : Int} {yo yp : List Int} {z y : List (List Int)} (k : pairCode h f l yo z h1 f1 l1 yp y = 0) (q : ¬ (l + l1 - 1 ≤ 12 ∧ z.length + y.length ≤ 20)) {α : Type} (b r m o : α) : eiSel h f l yo z h1 f1 l1 yp y b r m o = m := by unfold eiSel; rw [if_neg (by rw [k]; decide), if_neg (by rw [k]; decide), tell_false q]; rfl
theorem ei_ok {h f l h1 f1 l1 : Int} {yo yp : List Int} {z y : List (List Int)} (k : pairCode h f l yo z h1 f1 l1 yp y = 0) (q : l + l1 - 1 ≤ 12 ∧ z.length + y.length ≤ 20) {α : Type} (b r m o : α) : eiSel h f l yo z h1 f1 l1 yp y b r m o = o := by unfold eiSel; rw [if_neg (by rw [k]; decide), if_neg (by rw [k]; decide), tell_true q, if_pos rfl]
end Go.Proofs.Ytnebkhelobpkpaa

namespace Go.Proofs.Ytnebkhelobpkpaa
open Go.RowKit Go.Deep
set_option linter.unusedVariables false

theorem steps_ex {p : Int} {n m : Nat} {f0 : Nat → Nat → Int} (hp : Prm p) (h0 : ∀ i, i < m → ∀ j, j < n → Elem p (f0 i j)) : ∀ k, k ≤ n → ∃ f F, Steps p n m f0 k f F
  | 0, _ => ⟨f0, [], .start⟩
  | k + 1, hk => by
    obtain ⟨f, F, h⟩ := steps_ex hp h0 k (by omega)
    by_cases hz : ∀ i, F.length ≤ i → i < m → f i k = 0
    · exact ⟨f, F, .skip k f F h (by omega) hz⟩
    · have hex : ∃ s, F.length ≤ s ∧ s < m ∧ f s k ≠ 0 := by
        apply Classical.byContradiction
        intro hc
        apply hz
        intro i h1 h2
        apply Classical.byContradiction
        intro h3
        exact hc ⟨i, h1, h2, h3⟩
      obtain ⟨s, ⟨hs1, hs2, hs3⟩, hmin⟩ : ∃ s, (F.length ≤ s ∧ s < m ∧ f s k ≠ 0) ∧ ∀ i, i < s → ¬ (F.length ≤ i ∧ i < m ∧ f i k ≠ 0) := by
        obtain ⟨s0, h1⟩ := hex
        induction s0 using Nat.strongRecOn with
        | ind s ih =>
          by_cases hq : ∃ i, i < s ∧ (F.length ≤ i ∧ i < m ∧ f i k ≠ 0)
          · obtain ⟨i, hi, hh⟩ := hq
            exact ih i hi hh
          · exact ⟨s, h1, fun i hi hh => hq ⟨i, hi, hh⟩⟩
      have hel := h.elems h0
      have hpv := model_piv hp hel (by omega : k < n) hs1 hs2 hs3 (fun i a b => Classical.byContradiction fun h3 => hmin i b ⟨a, by omega, h3⟩)
      refine ⟨_, F ++ [k], .piv k f _ F h (by omega) (by omega) hpv (clm_elem hp.1 (chTo_elem (swp_elem hel (by omega) hs2) (mul_elem hp.1 _) _ _) _ _ _)⟩
theorem red_ok {p : Int} {n : Nat} {z : List (List Int)} (hg : GoodM p n z) : Steps p n z.length (fn z) n (redOf p n z).1 (echF p n z) := by
  obtain ⟨f, F, h⟩ := steps_ex hg.prm hg.elem n (Nat.le_refl _)
  exact red_steps h

theorem nthN_app1 {F G : List Nat} {j : Nat} (h : j < F.length) : nthN (F ++ G) j = nthN F j := by simp [nthN, List.getD, List.getElem?_append_left h]
theorem nthN_app2 {F : List Nat} {k : Nat} : nthN (F ++ [k]) F.length = k := by simp [nthN, List.getD]
/-- What holds along the reduction. -/
structure Red (p : Int) (n m : Nat) (f0 f : Nat → Nat → Int) (k : Nat) (F : List Nat) : Prop where
  len : F.length ≤ m
  lt : ∀ a, a < F.length → nthN F a < k
  rise : ∀ a b, a < b → b < F.length → nthN F a < nthN F b
  one : ∀ a, a < F.length → p ∣ f a (nthN F a) - 1
  off : ∀ a, a < F.length → ∀ i, i < m → i ≠ a → p ∣ f i (nthN F a)
  low : ∀ a, a < F.length → ∀ j, j < nthN F a → p ∣ f a j
  zero : ∀ i, F.length ≤ i → i < m → ∀ j, j < k → p ∣ f i j
  into : ∀ i, i < m → Sp p n m f 0 (f0 i)
  back : ∀ i, i < m → Sp p n m f0 0 (f i)

theorem Steps.red {p : Int} {n m : Nat} {f0 f : Nat → Nat → Int} {k : Nat} {F : List Nat} (h : Steps p n m f0 k f F) : Red p n m f0 f k F := by
  induction h with
  | start => exact ⟨Nat.zero_le _, fun a ha => absurd ha (Nat.not_lt_zero _), fun a b _ hb => absurd hb (Nat.not_lt_zero _), fun a ha => absurd ha (Nat.not_lt_zero _), fun a ha => absurd ha (Nat.not_lt_zero _), fun a ha => absurd ha (Nat.not_lt_zero _), fun i _ _ j hj => absurd hj (Nat.not_lt_zero _), fun i hi => Sp.row (Nat.zero_le _) hi, fun i hi => Sp.row (Nat.zero_le _) hi⟩
  | skip k f F h1 h2 h3 ih =>
    refine ⟨ih.len, fun a ha => by have := ih.lt a ha; omega, ih.rise, ih.one, ih.off, ih.low, fun i a b j hj => ?_, ih.into, ih.back⟩
    by_cases e : j = k
    · subst e; rw [h3 i a b]; exact Int.dvd_zero _
    · exact ih.zero i a b j (by omega)
  | piv k f f' F h1 h2 h3 h4 h5 ih =>
    have hz : ∀ {v : Nat → Int}, Sp p n m f F.length v → ∀ j, j < k → p ∣ v j := fun hs j hj => hs.zero_at (by omega) fun i a b => ih.zero i a b j hj
    have hq : ∀ j, j < k → p ∣ f' F.length j := hz h4.mem
    have hrow : ∀ i, i < F.length → ∀ j, j < k → p ∣ f i j → p ∣ f' i j := fun i hi j hj hd => by
      have e1 := h4.low i hi j (by omega)
      have e2 := Int.dvd_mul_of_dvd_right (b := f i k) (hq j hj)
      exact dvd_of (Int.dvd_add e1 (Int.dvd_sub hd e2)) (by omega)
    have hin : ∀ i, i < m → Sp p n m f' 0 (f i) := fun i hi => by
      by_cases e : i < F.length
      · have r1 : Sp p n m f' 0 (f' i) := Sp.row (Nat.zero_le _) hi
        have r2 : Sp p n m f' 0 (f' F.length) := Sp.row (Nat.zero_le _) h3
        exact (r1.plus (r2.smul (f i k))).congr fun j hj => dvd_of (Int.dvd_mul_of_dvd_right (b := -1) (h4.low i e j hj)) (by omega)
      · exact (h4.back i (by omega) hi).lower (Nat.zero_le _)
    have hba : ∀ i, i < m → Sp p n m f 0 (f' i) := fun i hi => by
      have r0 := h4.mem.lower (Nat.zero_le _)
      rcases Nat.lt_trichotomy i F.length with e | e | e
      · have r1 : Sp p n m f 0 (f i) := Sp.row (Nat.zero_le _) hi
        exact (r1.minus (r0.smul (f i k))).congr fun j hj => dvd_of (h4.low i e j hj) (by omega)
      · subst e; exact r0
      · exact (h4.high i e hi).1.lower (Nat.zero_le _)
    have hl : (F ++ [k]).length = F.length + 1 := by simp
    refine ⟨by rw [hl]; omega, fun a ha => ?_, fun a b hab hb => ?_, fun a ha => ?_, fun a ha i hi hne => ?_, fun a ha j hj => ?_, fun i a b j hj => ?_, fun i hi => Sp.of_rows (fun r _ hr => hin r hr) (ih.into i hi), fun i hi => Sp.of_rows (fun r _ hr => ih.back r hr) (hba i hi)⟩
    · rw [hl] at ha
      by_cases e : a < F.length
      · rw [nthN_app1 e]; have := ih.lt a e; omega
      · obtain rfl : a = F.length := by omega
        rw [nthN_app2]; omega
    · rw [hl] at hb
      have ea : a < F.length := by omega
      rw [nthN_app1 ea]
      by_cases e : b < F.length
      · rw [nthN_app1 e]; exact ih.rise a b hab e
      · obtain rfl : b = F.length := by omega
        rw [nthN_app2]; exact ih.lt a ea
    · rw [hl] at ha
      by_cases e : a < F.length
      · rw [nthN_app1 e]
        have hc := ih.lt a e
        have e1 := h4.low a e (nthN F a) (by omega)
        have e2 := Int.dvd_mul_of_dvd_right (b := f a k) (hq _ hc)
        exact dvd_of (Int.dvd_add e1 (Int.dvd_sub (ih.one a e) e2)) (by omega)
      · obtain rfl : a = F.length := by omega
        rw [nthN_app2]; exact h4.one
    · rw [hl] at ha
      by_cases e : a < F.length
      · rw [nthN_app1 e]
        have hc := ih.lt a e
        rcases Nat.lt_trichotomy i F.length with e2 | e2 | e2
        · exact hrow i e2 _ hc (ih.off a e i hi hne)
        · subst e2; exact hq _ hc
        · exact hz (h4.high i e2 hi).1 _ hc
      · obtain rfl : a = F.length := by omega
        rw [nthN_app2]
        rcases Nat.lt_trichotomy i F.length with e2 | e2 | e2
        · have d1 := h4.low i e2 k h2
          have d2 := Int.dvd_mul_of_dvd_right (b := f i k) h4.one
          exact dvd_of (Int.dvd_sub d1 d2) (by rw [Int.mul_sub]; omega)
        · exact absurd e2 hne
        · exact (h4.high i e2 hi).2
    · rw [hl] at ha
      by_cases e : a < F.length
      · rw [nthN_app1 e] at hj
        have hc := ih.lt a e
        exact hrow a e j (by omega) (ih.low a e j hj)
      · obtain rfl : a = F.length := by omega
        rw [nthN_app2] at hj
        exact hq j hj
    · rw [hl] at a
      by_cases e : j = k
      · subst e; exact (h4.high i (by omega) b).2
      · exact hz (h4.high i (by omega) b).1 j (by omega)

/-! ### Products -/
theorem dot_congr {a b a' b' : Nat → Int} : ∀ n, (∀ j, j < n → a j = a' j ∧ b j = b' j) → dotTo a b n = dotTo a' b' n
  | 0, _ => rfl
  | n + 1, h => by
    simp only [dotTo]
    rw [dot_congr n fun j hj => h j (by omega), (h n (Nat.lt_succ_self n)).1, (h n (Nat.lt_succ_self n)).2]
theorem dot_add (a a' b : Nat → Int) : ∀ n, dotTo (fun j => a j + a' j) b n = dotTo a b n + dotTo a' b n
  | 0 => rfl
  | n + 1 => by simp only [dotTo]; rw [dot_add a a' b n, Int.add_mul]; omega
theorem dot_smul (c : Int) (a b : Nat → Int) : ∀ n, dotTo (fun j => c * a j) b n = c * dotTo a b n
  | 0 => by simp [dotTo]
  | n + 1 => by simp only [dotTo]; rw [dot_smul c a b n, Int.mul_add, Int.mul_assoc]
theorem dot_zero (b : Nat → Int) : ∀ n, dotTo (fun _ => 0) b n = 0
  | 0 => rfl
  | n + 1 => by simp only [dotTo]; rw [dot_zero b n]; omega
theorem dot_zero2 (a : Nat → Int) : ∀ n, dotTo a (fun _ => 0) n = 0
  | 0 => rfl
  | n + 1 => by simp only [dotTo]; rw [dot_zero2 a n]; omega
theorem dot_dvd {p : Int} {a b : Nat → Int} : ∀ n, (∀ j, j < n → p ∣ a j) → p ∣ dotTo a b n
  | 0, _ => Int.dvd_zero _
  | n + 1, h => by
    simp only [dotTo]
    exact Int.dvd_add (dot_dvd n fun j hj => h j (by omega)) (Int.dvd_mul_of_dvd_left (h n (Nat.lt_succ_self n)))
theorem dot_mod {p : Int} {a a' b : Nat → Int} (n : Nat) (h : ∀ j, j < n → p ∣ a j - a' j) : p ∣ dotTo a b n - dotTo a' b n := by
  have h1 := dot_dvd (b := b) n h
  have h2 := dot_add a' (fun j => a j - a' j) b n
  have h3 : dotTo (fun j => a' j + (a j - a' j)) b n = dotTo a b n := dot_congr n fun j _ => ⟨by omega, rfl⟩
  rw [h3] at h2
  exact dvd_of h1 (by omega)
/-- A product with a list that is 0 but at one place, is added. -/
theorem dot_upd (u h : Nat → Int) (c : Nat) (y : Int) : ∀ n, dotTo u (fun j => if j = c then y else h j) n = dotTo u h n + if c < n then u c * (y - h c) else 0
  | 0 => by simp [dotTo]
  | n + 1 => by
    simp only [dotTo]
    rw [dot_upd u h c y n]
    by_cases e : n = c
    · subst e
      rw [if_neg (Nat.lt_irrefl n), if_pos rfl, if_pos (Nat.lt_succ_self n), Int.mul_sub]
      omega
    · rw [if_neg e]
      by_cases e2 : c < n
      · rw [if_pos e2, if_pos (by omega)]; omega
      · rw [if_neg e2, if_neg (by omega)]; omega
/-- A functional that is 0 on rows is 0 on what they span. -/
theorem Sp.dot {p : Int} {n m : Nat} {f : Nat → Nat → Int} {q : Nat} {v : Nat → Int} {b : Nat → Int} (h : ∀ i, q ≤ i → i < m → p ∣ dotTo (f i) b n) (k : Sp p n m f q v) : p ∣ dotTo v b n := by
  induction k with
  | zero v hv => exact dot_dvd n hv
  | add v u i c h1 h2 h3 h4 ih =>
    have e1 := dot_mod (b := b) n h4
    have e2 : dotTo (fun j => u j + c * f i j) b n = dotTo u b n + c * dotTo (f i) b n := by
      rw [dot_add u (fun j => c * f i j) b n, dot_smul]
    rw [e2] at e1
    exact dvd_of (Int.dvd_add e1 (Int.dvd_add ih (Int.dvd_mul_of_dvd_right (b := c) (h i h1 h2)))) (by omega)

theorem sol_other {F : List Nat} {g : Nat → Int} {j : Nat} : ∀ K, (∀ a, a < K → nthN F a ≠ j) → solAt (fun _ => 0) F g K j = 0
  | 0, _ => rfl
  | K + 1, h => by
    rw [sol_next, if_neg (fun e => h K (Nat.lt_succ_self K) e.symm)]
    exact sol_other K fun a ha => h a (by omega)
/-- The product of a row with the solution. -/
theorem sol_dot {p : Int} {n i : Nat} {u : Nat → Int} {F : List Nat} {g : Nat → Int} (hr : ∀ a b, a < b → b < F.length → nthN F a < nthN F b) (hn : ∀ a, a < F.length → nthN F a < n) (h1 : i < F.length → p ∣ u (nthN F i) - 1) (h0 : ∀ a, a < F.length → a ≠ i → p ∣ u (nthN F a)) :
    ∀ K, K ≤ F.length → p ∣ dotTo u (solAt (fun _ => 0) F g K) n - (if i < K then g i else 0)
  | 0, _ => by
    rw [if_neg (Nat.not_lt_zero _)]
    refine dvd_of (Int.dvd_zero p) ?_
    show dotTo u (fun _ => 0) n - 0 = 0
    rw [dot_zero2]; rfl
  | K + 1, hK => by
    have ih := sol_dot (g := g) hr hn h1 h0 K (by omega)
    have hF : solAt (fun _ => 0) F g (K + 1) = fun j => if j = nthN F K then g K else solAt (fun _ => 0) F g K j := by funext j; rfl
    have hz : solAt (fun _ => 0) F g K (nthN F K) = 0 := sol_other K fun a ha => by have := hr a K ha (by omega); omega
    rw [hF, dot_upd, if_pos (hn K (by omega)), hz]
    by_cases e : K = i
    · subst e
      rw [if_neg (Nat.lt_irrefl K)] at ih
      rw [if_pos (Nat.lt_succ_self K)]
      have d := Int.dvd_mul_of_dvd_left (c := g K) (h1 (by omega))
      exact dvd_of (Int.dvd_add ih d) (by simp only [Int.sub_zero, Int.sub_mul, Int.one_mul]; omega)
    · have d := Int.dvd_mul_of_dvd_left (c := g K) (h0 K (by omega) e)
      by_cases e2 : i < K
      · rw [if_pos e2] at ih
        rw [if_pos (by omega)]
        exact dvd_of (Int.dvd_add ih d) (by simp only [Int.sub_zero]; omega)
      · rw [if_neg e2] at ih
        rw [if_neg (by omega)]
        exact dvd_of (Int.dvd_add ih d) (by simp only [Int.sub_zero])

section
variable {p : Int} {n : Nat} {z : List (List Int)} {v : List Int}
theorem bes_fn1 {r j : Nat} (hr : r < z.length) (hl : (nthL z r).length = n) (hj : j < n) : fn (besA z [v] z.length) r j = nth (nthL z r) j := by
  unfold fn
  rw [besA_at _ _ hr, besR, nth_app1 (by rw [hl]; exact hj)]
theorem bes_fn2 {r : Nat} (hr : r < z.length) (hl : (nthL z r).length = n) : fn (besA z [v] z.length) r n = nth v r := by
  unfold fn
  rw [besA_at _ _ hr, besR, nth_app2 (by rw [hl]; exact Nat.le_refl _), hl, Nat.sub_self, colsAt_at _ _ _ (by simp)]
  rfl
/-- THE SOLUTION HAS THE GIVEN PRODUCTS. -/
theorem sol_sat (hg : GoodM p n z) (hn : n ≤ 999) (hl : v.length = z.length) (hv : Elems p v) (hs : SolOk p n z v) : ∀ r, r < z.length → p ∣ dotTo (nth (nthL z r)) (nth (solZ p n z v)) n - nth v r := by
  have hG := bes1_good hg (by omega) hl hv
  have hst := red_ok hG
  have R := hst.red
  have hlen : (besA z [v] z.length).length = z.length := besA_len _ _ _
  rw [hlen] at R
  obtain ⟨f, hf⟩ : ∃ f, (redOf p (n + 1) (besA z [v] z.length)).1 = f := ⟨_, rfl⟩
  rw [hf] at R
  have hSF : solF p n z v = echF p (n + 1) (besA z [v] z.length) := rfl
  unfold SolOk at hs
  rw [hSF] at hs
  have hSG : ∀ i, i < (echF p (n + 1) (besA z [v] z.length)).length → solG p n z v i = f i n := fun i hi => by
    unfold solG echZ
    rw [tab_at _ _ _ hi (Nat.lt_succ_self n), hf]
  have hZ : ∀ j, j < n → nth (solZ p n z v) j = solAt (fun _ => 0) (echF p (n + 1) (besA z [v] z.length)) (solG p n z v) (echF p (n + 1) (besA z [v] z.length)).length j := fun j hj => by
    unfold solZ
    rw [rowOf_at _ _ hj]
    rfl
  generalize echF p (n + 1) (besA z [v] z.length) = F at *
  have hFn : ∀ a, a < F.length → nthN F a < n := fun a ha => by have := R.lt a ha; have := hs a ha; omega
  -- the functional: the product with the solution, less the value
  have hphi : ∀ i, i < z.length → p ∣ dotTo (f i) (solAt (fun _ => 0) F (solG p n z v) F.length) n - f i n := fun i hi => by
    by_cases e : i < F.length
    · have h := sol_dot (u := f i) (g := solG p n z v) (i := i) R.rise hFn (fun _ => R.one i e) (fun a ha hne => R.off a ha i hi (fun q => hne q.symm)) F.length (Nat.le_refl _)
      rw [if_pos e, hSG i e] at h
      exact h
    · have h1 := R.zero i (by omega) hi n (Nat.lt_succ_self n)
      have h2 := dot_dvd (b := solAt (fun _ => 0) F (solG p n z v) F.length) n (fun j hj => R.zero i (by omega) hi j (by omega))
      exact Int.dvd_sub h2 h1
  have hW : ∀ u : Nat → Int, dotTo u (fun j => if j = n then -1 else solAt (fun _ => 0) F (solG p n z v) F.length j) (n + 1) = dotTo u (solAt (fun _ => 0) F (solG p n z v) F.length) n - u n := fun u => by
    simp only [dotTo, ↓reduceIte]
    rw [dot_congr (a' := u) (b' := solAt (fun _ => 0) F (solG p n z v) F.length) n (fun j hj => ⟨rfl, by rw [if_neg (by omega)]⟩)]
    omega
  intro r hr
  have hrl := (hg.rows r hr).1
  have h := Sp.dot (b := fun j => if j = n then -1 else solAt (fun _ => 0) F (solG p n z v) F.length j) (fun i _ hi => by rw [hW]; exact hphi i hi) (R.into r hr)
  rw [hW, bes_fn2 hr hrl] at h
  rw [dot_congr (a' := fn (besA z [v] z.length) r) (b' := solAt (fun _ => 0) F (solG p n z v) F.length) n (fun j hj => ⟨(bes_fn1 hr hrl hj).symm, hZ j hj⟩)]
  exact h
/-- WHERE THERE ARE ELEMENTS WITH THE GIVEN PRODUCTS, THE REDUCTION FINDS SOME. -/
theorem sol_find (hg : GoodM p n z) (hn : n ≤ 999) (hl : v.length = z.length) (hv : Elems p v) (x : Nat → Int) (hx : ∀ r, r < z.length → p ∣ dotTo (nth (nthL z r)) x n - nth v r) : SolOk p n z v := by
  have hG := bes1_good hg (by omega) hl hv
  have R := (red_ok hG).red
  have hlen : (besA z [v] z.length).length = z.length := besA_len _ _ _
  rw [hlen] at R
  have hp := hg.prm.1
  unfold SolOk
  show ∀ k, k < (echF p (n + 1) (besA z [v] z.length)).length → nthN (echF p (n + 1) (besA z [v] z.length)) k ≠ n
  generalize echF p (n + 1) (besA z [v] z.length) = F at *
  generalize (redOf p (n + 1) (besA z [v] z.length)).1 = f at *
  intro k hk e
  have hkm : k < z.length := by have := R.len; omega
  have hW : ∀ u : Nat → Int, dotTo u (fun j => if j = n then -1 else x j) (n + 1) = dotTo u x n - u n := fun u => by
    simp only [dotTo, ↓reduceIte]
    rw [dot_congr (a' := u) (b' := x) n (fun j hj => ⟨rfl, by rw [if_neg (by omega)]⟩)]
    omega
  have h := Sp.dot (b := fun j => if j = n then -1 else x j) (fun i _ hi => by
    have hrl := (hg.rows i hi).1
    rw [hW, bes_fn2 hi hrl, dot_congr (a' := nth (nthL z i)) (b' := x) n (fun j hj => ⟨bes_fn1 hi hrl hj, rfl⟩)]
    exact hx i hi) (R.back k hkm)
  rw [hW] at h
  have h1 := R.one k hk
  rw [e] at h1
  have h2 := dot_dvd (b := x) n (fun j hj => R.low k hk j (by rw [e]; exact hj))
  have h3 : p ∣ 1 := dvd_of (Int.dvd_sub (Int.dvd_sub h2 h) h1) (by omega)
  have := Int.le_of_dvd (by omega) h3
  omega
end
theorem solZ_elems {p : Int} {n : Nat} {z : List (List Int)} {v : List Int} (hg : GoodM p n z) (hn : n ≤ 999) (hl : v.length = z.length) (hv : Elems p v) : Elems p (solZ p n z v) := fun i hi => by
  have hG := bes1_good hg (by omega) hl hv
  have hst := red_ok hG
  have hp := hg.prm.1
  rw [solZ_len] at hi
  unfold solZ
  rw [rowOf_at _ _ hi]
  refine sol_elem i (h0 := ⟨Int.le_refl _, by show (0 : Int) < p; omega⟩) _ fun k hk => ?_
  unfold solG echZ
  have hk' : k < (echF p (n + 1) (besA z [v] z.length)).length := hk
  rw [tab_at _ _ _ hk' (show n < n + 1 by omega)]
  exact hst.elems hG.elem k (by have := hst.len; omega) n (show n < n + 1 by omega)
/-- Sums exchanged. -/
theorem dot_swap (e d : Nat → Int) (g : Nat → Nat → Int) (n : Nat) : ∀ m, dotTo e (fun r => dotTo (g r) d n) m = dotTo (fun j => dotTo (fun r => g r j) e m) d n
  | 0 => by
    show (0 : Int) = dotTo (fun j => 0) d n
    rw [dot_zero]
  | m + 1 => by
    show dotTo e (fun r => dotTo (g r) d n) m + e m * dotTo (g m) d n = dotTo (fun j => dotTo (fun r => g r j) e m + g m j * e m) d n
    rw [dot_swap e d g n m, dot_add (fun j => dotTo (fun r => g r j) e m) (fun j => g m j * e m) d n, ← dot_smul (e m) (g m) d n]
    congr 1
    exact dot_congr n fun j _ => ⟨Int.mul_comm _ _, rfl⟩
end Go.Proofs.Ytnebkhelobpkpaa

namespace Go.Proofs.Ytnebkhelobpkpaa
open Go.RowKit Go.Deep
set_option linter.unusedVariables false

theorem dot_comm3 (a b : Nat → Int) : ∀ k, dotTo a b k = dotTo b a k
  | 0 => rfl
  | k + 1 => by simp only [dotTo]; rw [dot_comm3 a b k, Int.mul_comm]
theorem sol_keep {h0 : Nat → Int} {F : List Nat} {g : Nat → Int} {j : Nat} : ∀ K, (∀ a, a < K → nthN F a ≠ j) → solAt h0 F g K j = h0 j
  | 0, _ => rfl
  | K + 1, h => by
    rw [sol_next, if_neg (fun e => h K (Nat.lt_succ_self K) e.symm)]
    exact sol_keep K fun a ha => h a (by omega)
theorem sol_dot2 {p : Int} {n i : Nat} {u h0 : Nat → Int} {F : List Nat} {g : Nat → Int} (hr : ∀ a b, a < b → b < F.length → nthN F a < nthN F b) (hn : ∀ a, a < F.length → nthN F a < n) (hz : ∀ a, a < F.length → h0 (nthN F a) = 0) (h1 : i < F.length → p ∣ u (nthN F i) - 1) (h2 : ∀ a, a < F.length → a ≠ i → p ∣ u (nthN F a)) :
    ∀ K, K ≤ F.length → p ∣ dotTo u (solAt h0 F g K) n - (dotTo u h0 n + if i < K then g i else 0)
  | 0, _ => by
    rw [if_neg (Nat.not_lt_zero _)]
    refine dvd_of (Int.dvd_zero p) ?_
    show dotTo u h0 n - (dotTo u h0 n + 0) = 0
    omega
  | K + 1, hK => by
    have ih := sol_dot2 (g := g) hr hn hz h1 h2 K (by omega)
    have hF : solAt h0 F g (K + 1) = fun j => if j = nthN F K then g K else solAt h0 F g K j := by funext j; rfl
    have hz2 : solAt h0 F g K (nthN F K) = 0 := by
      rw [sol_keep K fun a ha => by have := hr a K ha (by omega); omega]
      exact hz K (by omega)
    rw [hF, dot_upd, if_pos (hn K (by omega)), hz2]
    generalize dotTo u h0 n = D at *
    by_cases e : K = i
    · subst e
      rw [if_neg (Nat.lt_irrefl K)] at ih
      rw [if_pos (Nat.lt_succ_self K)]
      have d := Int.dvd_mul_of_dvd_left (c := g K) (h1 (by omega))
      exact dvd_of (Int.dvd_add ih d) (by simp only [Int.sub_zero, Int.sub_mul, Int.one_mul]; omega)
    · have d := Int.dvd_mul_of_dvd_left (c := g K) (h2 K (by omega) e)
      by_cases e2 : i < K
      · rw [if_pos e2] at ih
        rw [if_pos (by omega)]
        exact dvd_of (Int.dvd_add ih d) (by simp only [Int.sub_zero]; omega)
      · rw [if_neg e2] at ih
        rw [if_neg (by omega)]
        exact dvd_of (Int.dvd_add ih d) (by simp only [Int.sub_zero]; omega)

section
variable {p : Int} {n : Nat} {z : List (List Int)}
theorem mem_nthN {F : List Nat} {c : Nat} (h : c ∈ F) : ∃ a, a < F.length ∧ nthN F a = c := by
  obtain ⟨i, hi, rfl⟩ := List.getElem_of_mem h
  exact ⟨i, hi, nthN_lt hi⟩
/-- ALL ROWS MAKE A ROW OF THE KERNEL 0. -/
theorem ker_zero (hg : GoodM p n z) {c : Nat} (hc : c < n) (hcF : c ∉ echF p n z) : ∀ r, r < z.length → p ∣ dotTo (nth (nthL z r)) (nth (kerRow p n z c)) n := by
  have R := (red_ok hg).red
  have hK : ∀ j, j < n → nth (kerRow p n z c) j = solAt (oneAt c) (echF p n z) (kerG p n z c) (echF p n z).length j := fun j hj => by
    unfold kerRow; rw [rowOf_at _ _ hj]
  have hG : ∀ i, i < (echF p n z).length → kerG p n z c i = (p - (redOf p n z).1 i c) % p := fun i hi => by
    unfold kerG echZ; rw [tab_at _ _ _ hi hc]
  generalize echF p n z = F at *
  generalize (redOf p n z).1 = f at *
  have hone : ∀ u : Nat → Int, dotTo u (oneAt c) n = u c := fun u => by
    have h := dot_upd u (fun _ => 0) c 1 n
    rw [dot_zero2, if_pos hc] at h
    rw [show oneAt c = fun j => if j = c then 1 else (0 : Int) from rfl, h]
    simp
  have hphi : ∀ i, i < z.length → p ∣ dotTo (f i) (solAt (oneAt c) F (kerG p n z c) F.length) n := fun i hi => by
    by_cases e : i < F.length
    · have h := sol_dot2 (u := f i) (h0 := oneAt c) (g := kerG p n z c) (i := i) R.rise R.lt (fun a ha => by
        unfold oneAt
        rw [if_neg]
        intro q
        exact hcF (by rw [← q]; exact nthN_mem ha)) (fun _ => R.one i e) (fun a ha hne => R.off a ha i hi (fun q => hne q.symm)) F.length (Nat.le_refl _)
      rw [if_pos e, hone, hG i e] at h
      have h2 := emod_dvd (p - f i c) p
      exact dvd_of (Int.dvd_add (Int.dvd_add h h2) (Int.dvd_refl p)) (by omega)
    · exact dot_dvd n fun j hj => R.zero i (by omega) hi j hj
  intro r hr
  have h := Sp.dot (b := solAt (oneAt c) F (kerG p n z c) F.length) (fun i _ hi => hphi i hi) (R.into r hr)
  rw [dot_congr (a := nth (nthL z r)) (b := nth (kerRow p n z c)) (a' := fn z r) (b' := solAt (oneAt c) F (kerG p n z c) F.length) n (fun j hj => ⟨rfl, hK j hj⟩)]
  exact h
theorem kerRow_at {c j : Nat} (hj : j < n) (hjF : j ∉ echF p n z) : nth (kerRow p n z c) j = if j = c then 1 else 0 := by
  unfold kerRow
  rw [rowOf_at _ _ hj, sol_keep _ fun a ha q => hjF (by rw [← q]; exact nthN_mem ha)]
  rfl
theorem kerRow_elems (hp : 2 ≤ p) (c : Nat) : Elems p (kerRow p n z c) := fun i hi => by
  rw [kerRow_len] at hi
  unfold kerRow
  rw [rowOf_at _ _ hi]
  refine sol_elem i (h0 := ?_) _ fun k hk => mod_elem hp _
  unfold oneAt
  split
  · exact ⟨by omega, by omega⟩
  · exact ⟨by omega, by omega⟩
/-- The columns without a first element, of the first k ones. -/
noncomputable def freeTo (p : Int) (n : Nat) (z : List (List Int)) : Nat → List Nat
  | 0 => []
  | k + 1 => open Classical in if k ∈ echF p n z then freeTo p n z k else freeTo p n z k ++ [k]
theorem freeTo_mem : ∀ k c, c ∈ freeTo p n z k ↔ c < k ∧ c ∉ echF p n z
  | 0, c => by simp [freeTo]
  | k + 1, c => by
    have ih := freeTo_mem k c
    by_cases h : k ∈ echF p n z
    · rw [freeTo, if_pos h, ih]
      constructor
      · rintro ⟨a, b⟩; exact ⟨by omega, b⟩
      · rintro ⟨a, b⟩
        refine ⟨?_, b⟩
        by_cases e : c = k
        · subst e; exact absurd h b
        · omega
    · rw [freeTo, if_neg h, List.mem_append, ih, List.mem_singleton]
      constructor
      · rintro (⟨a, b⟩ | rfl)
        · exact ⟨by omega, b⟩
        · exact ⟨by omega, h⟩
      · rintro ⟨a, b⟩
        by_cases e : c = k
        · exact .inr e
        · exact .inl ⟨by omega, b⟩
theorem kerTo_free : ∀ k, kerTo p n z k = (freeTo p n z k).map (kerRow p n z)
  | 0 => rfl
  | k + 1 => by
    by_cases h : k ∈ echF p n z
    · rw [ker_skip h, freeTo, if_pos h, kerTo_free k]
    · rw [ker_next h, freeTo, if_neg h, kerTo_free k, List.map_append]; rfl
theorem freeTo_nodup : ∀ k, (freeTo p n z k).Nodup
  | 0 => by simp [freeTo]
  | k + 1 => by
    by_cases h : k ∈ echF p n z
    · rw [freeTo, if_pos h]; exact freeTo_nodup k
    · rw [freeTo, if_neg h]
      refine List.nodup_append.2 ⟨freeTo_nodup k, by simp, fun a ha b hb => ?_⟩
      have := (freeTo_mem k a).1 ha
      simp at hb
      omega
theorem kerZ_len : (kerZ p n z).length = (freeTo p n z n).length := by unfold kerZ; rw [kerTo_free, List.length_map]
theorem kerZ_at {x : Nat} (hx : x < (freeTo p n z n).length) : nthL (kerZ p n z) x = kerRow p n z (freeTo p n z n)[x] := by
  have hk : kerZ p n z = (freeTo p n z n).map (kerRow p n z) := kerTo_free n
  rw [hk, nthL_lt (by rw [List.length_map]; exact hx), List.getElem_map]
theorem kerZ_row {x : Nat} (hx : x < (kerZ p n z).length) : ∃ c, c < n ∧ c ∉ echF p n z ∧ nthL (kerZ p n z) x = kerRow p n z c := by
  have hx' : x < (freeTo p n z n).length := by rw [kerZ_len] at hx; exact hx
  have hm := (freeTo_mem n _).1 (List.getElem_mem hx')
  exact ⟨_, hm.1, hm.2, kerZ_at hx'⟩
theorem kerZ_mat {c : Int} (h : MatOk p c z) : MatOk p c (kerZ p c.toNat z) := by
  refine ⟨h.1, h.2.1, ?_, fun r hr => ?_⟩
  · have := kerTo_len (p := p) (n := c.toNat) (z := z) c.toNat
    have := h.2.1.2
    unfold kerZ
    omega
  · obtain ⟨q, h1, h2, h3⟩ := kerZ_row hr
    rw [h3]
    exact ⟨by rw [kerRow_len]; have := h.2.1.1; omega, kerRow_elems h.1.1 q⟩
end

theorem steps_nodup {p : Int} {n m : Nat} {f0 f : Nat → Nat → Int} {k : Nat} {F : List Nat} (h : Steps p n m f0 k f F) : F.Nodup := by
  induction h with
  | start => simp
  | skip k f F h1 h2 h3 ih => exact ih
  | piv k f f' F h1 h2 h3 h4 h5 ih =>
    refine List.nodup_append.2 ⟨ih, by simp, fun a ha b hb => ?_⟩
    have := h1.lenk.2 a ha
    simp at hb
    omega
/-- A list of numbers below n and what is not in it are n numbers together. -/
theorem count_free : ∀ (n : Nat) (F G : List Nat), F.Nodup → G.Nodup → (∀ x, x ∈ F → x < n) → (∀ x, x ∈ G ↔ x < n ∧ x ∉ F) → F.length + G.length = n
  | 0, F, G, _, _, h1, h2 => by
    have hF : F = [] := List.eq_nil_iff_forall_not_mem.2 fun x hx => absurd (h1 x hx) (Nat.not_lt_zero _)
    have hG : G = [] := List.eq_nil_iff_forall_not_mem.2 fun x hx => absurd ((h2 x).1 hx).1 (Nat.not_lt_zero _)
    rw [hF, hG]; rfl
  | n + 1, F, G, hF, hG, h1, h2 => by
    by_cases h : n ∈ F
    · have ih := count_free n (F.erase n) G (hF.erase n) hG (fun x hx => by
        have h3 := h1 x (List.mem_of_mem_erase hx)
        have h4 : x ≠ n := fun e => by subst e; exact hF.not_mem_erase hx
        omega) (fun x => by
        rw [h2 x]
        constructor
        · rintro ⟨a, b⟩
          have : x ≠ n := fun e => b (e ▸ h)
          exact ⟨by omega, fun q => b (List.mem_of_mem_erase q)⟩
        · rintro ⟨a, b⟩
          exact ⟨by omega, fun q => b ((List.mem_erase_of_ne (by omega)).2 q)⟩)
      have := List.length_erase_of_mem h
      have := List.length_pos_of_mem h
      omega
    · have hn : n ∈ G := (h2 n).2 ⟨by omega, h⟩
      have ih := count_free n F (G.erase n) hF (hG.erase n) (fun x hx => by
        have h3 := h1 x hx
        have h4 : x ≠ n := fun e => by subst e; exact h hx
        omega) (fun x => by
        constructor
        · intro q
          have h3 := (h2 x).1 (List.mem_of_mem_erase q)
          have h4 : x ≠ n := fun e => by subst e; exact hG.not_mem_erase q
          exact ⟨by omega, h3.2⟩
        · rintro ⟨a, b⟩
          exact (List.mem_erase_of_ne (by omega)).2 ((h2 x).2 ⟨by omega, b⟩))
      have := List.length_erase_of_mem hn
      have := List.length_pos_of_mem hn
      omega
section
variable {p : Int} {n : Nat} {z : List (List Int)}
/-- THE RANK AND THE ROWS OF THE KERNEL ARE AS MANY AS THE COLUMNS. -/
theorem rank_ker (hg : GoodM p n z) : (echF p n z).length + (kerZ p n z).length = n := by
  rw [kerZ_len]
  exact count_free n _ _ (steps_nodup (red_ok hg)) (freeTo_nodup n) echF_lt (freeTo_mem n)
/-- A matrix with fewer rows than columns makes something 0 that is not 0. -/
theorem wide_ker (hg : GoodM p n z) (h : (echF p n z).length < n) : ∃ (y : Nat → Int) (c : Nat), c < n ∧ y c = 1 ∧ ∀ r, r < z.length → p ∣ dotTo (nth (nthL z r)) y n := by
  have hk := rank_ker hg
  obtain ⟨c, h1, h2, -⟩ := kerZ_row (p := p) (n := n) (z := z) (x := 0) (by omega)
  exact ⟨nth (kerRow p n z c), c, h1, by rw [kerRow_at h1 h2, if_pos rfl], ker_zero hg h1 h2⟩
/-- THE ROWS OF THE KERNEL ARE INDEPENDENT. -/
theorem ker_rank (hg : GoodM p n z) : (echF p n (kerZ p n z)).length = (kerZ p n z).length := by
  have hp := hg.prm.1
  have hgk : GoodM p n (kerZ p n z) := ⟨hg.prm, hg.hn, by have := kerTo_len (p := p) (n := n) (z := z) n; have := hg.hn; unfold kerZ; omega, fun r hr => by
    obtain ⟨q, h1, h2, h3⟩ := kerZ_row hr
    rw [h3]
    exact ⟨kerRow_len q, kerRow_elems hp q⟩⟩
  have R := (red_ok hgk).red
  generalize hF : echF p n (kerZ p n z) = F at *
  generalize (redOf p n (kerZ p n z)).1 = f at *
  apply Classical.byContradiction
  intro hne
  have hlt : F.length < (kerZ p n z).length := by have := R.len; omega
  -- the values of the kernel's rows at the first columns: as rows, with as many columns as the kernel has rows
  have hgA : GoodM p (kerZ p n z).length (tab F.length (kerZ p n z).length (fun a r => nth (nthL (kerZ p n z) r) (nthN F a))) :=
    ⟨hg.prm, hgk.hm, by rw [tab_len]; have := hgk.hm; omega, fun a ha => by
      rw [tab_len] at ha
      refine ⟨tab_rlen _ _ _ ha, fun r hr => ?_⟩
      rw [tab_rlen _ _ _ ha] at hr
      rw [tab_at _ _ _ ha hr]
      exact (hgk.rows r hr).2 _ (by rw [(hgk.rows r hr).1]; exact R.lt a ha)⟩
  obtain ⟨y, c, hc, hy, hz⟩ := wide_ker hgA (by
    have := (red_ok hgA).len
    rw [tab_len] at this
    omega)
  rw [tab_len] at hz
  -- each row of the kernel is made of the rows of its echelon, with its values at the first columns
  have hcomb : ∀ r, r < (kerZ p n z).length → ∀ j, j < n → p ∣ nth (nthL (kerZ p n z) r) j - dotTo (fun a => nth (nthL (kerZ p n z) r) (nthN F a)) (fun a => f a j) F.length := fun r hr j hj => by
    have hs := R.into r hr
    have hgen : ∀ v : Nat → Int, Sp p n (kerZ p n z).length f 0 v → p ∣ v j - dotTo (fun a => v (nthN F a)) (fun a => f a j) F.length := by
      intro v hv
      induction hv with
      | zero v h =>
        exact Int.dvd_sub (h j hj) (dot_dvd _ fun a ha => h _ (R.lt a ha))
      | add v u i c' h1 h2 h3 h4 ih =>
        have e1 := h4 j hj
        have e2 : p ∣ dotTo (fun a => v (nthN F a)) (fun a => f a j) F.length - dotTo (fun a => u (nthN F a) + c' * f i (nthN F a)) (fun a => f a j) F.length := dot_mod _ fun a ha => h4 _ (R.lt a ha)
        rw [dot_add (fun a => u (nthN F a)) (fun a => c' * f i (nthN F a)), dot_smul] at e2
        have e3 : p ∣ dotTo (fun a => f i (nthN F a)) (fun a => f a j) F.length - f i j := by
          by_cases e : i < F.length
          · have h5 : p ∣ dotTo (fun a => f i (nthN F a)) (fun a => f a j) F.length - dotTo (fun a => if a = i then 1 else (0 : Int)) (fun a => f a j) F.length := dot_mod _ fun a ha => by
              by_cases ea : a = i
              · subst ea
                rw [if_pos rfl]
                exact R.one a ha
              · rw [if_neg ea, Int.sub_zero]
                exact R.off a ha i h2 (fun q => ea q.symm)
            rw [dot_comm3 (fun a => if a = i then 1 else (0 : Int)), dot_upd (fun a => f a j) (fun _ => 0) i 1, dot_zero2, if_pos e] at h5
            exact dvd_of h5 (by simp only [Int.sub_zero, Int.mul_one]; omega)
          · have h6 : p ∣ dotTo (fun a => f i (nthN F a)) (fun a => f a j) F.length := dot_dvd _ fun a ha => R.zero i (by omega) h2 _ (R.lt a ha)
            exact Int.dvd_sub h6 (R.zero i (by omega) h2 j hj)
        have e4 := Int.dvd_mul_of_dvd_right (b := c') e3
        rw [Int.mul_sub] at e4
        exact dvd_of (Int.dvd_sub (Int.dvd_add e1 ih) (Int.dvd_add e2 e4)) (by omega)
    exact hgen _ hs
  -- so the combination of the kernel's rows is 0
  have hsum : ∀ j, j < n → p ∣ dotTo y (fun r => nth (nthL (kerZ p n z) r) j) (kerZ p n z).length := fun j hj => by
    have h1 : p ∣ dotTo (fun r => nth (nthL (kerZ p n z) r) j) y (kerZ p n z).length - dotTo (fun r => dotTo (fun a => nth (nthL (kerZ p n z) r) (nthN F a)) (fun a => f a j) F.length) y (kerZ p n z).length := dot_mod _ fun r hr => hcomb r hr j hj
    rw [dot_comm3 (fun r => dotTo (fun a => nth (nthL (kerZ p n z) r) (nthN F a)) (fun a => f a j) F.length), dot_swap y (fun a => f a j) (fun r a => nth (nthL (kerZ p n z) r) (nthN F a)) F.length (kerZ p n z).length] at h1
    have h2 : p ∣ dotTo (fun a => dotTo (fun r => nth (nthL (kerZ p n z) r) (nthN F a)) y (kerZ p n z).length) (fun a => f a j) F.length := dot_dvd _ fun a ha => by
      have h := hz a ha
      rw [dot_congr (a' := fun r => nth (nthL (kerZ p n z) r) (nthN F a)) (b' := y) _ (fun r hr => ⟨by rw [tab_at _ _ _ ha hr], rfl⟩)] at h
      exact h
    rw [dot_comm3 y]
    exact dvd_of (Int.dvd_add h1 h2) (by omega)
  -- but at the column of row c it is 1
  have hfl : (kerZ p n z).length = (freeTo p n z n).length := kerZ_len
  have hcf : c < (freeTo p n z n).length := by rw [← hfl]; exact hc
  have hm := (freeTo_mem n _).1 (List.getElem_mem hcf)
  have hrow : ∀ r (hr : r < (kerZ p n z).length), nth (nthL (kerZ p n z) r) (freeTo p n z n)[c] = if r = c then 1 else 0 := fun r hr => by
    have hrf : r < (freeTo p n z n).length := by rw [← hfl]; exact hr
    rw [kerZ_at hrf, kerRow_at hm.1 hm.2]
    by_cases e : r = c
    · subst e; rw [if_pos rfl, if_pos rfl]
    · rw [if_neg e, if_neg]
      intro q
      have hpw := List.pairwise_iff_getElem.1 (freeTo_nodup (p := p) (n := n) (z := z) n)
      rcases Nat.lt_or_gt_of_ne e with h | h
      · exact hpw r c hrf hcf h q.symm
      · exact hpw c r hcf hrf h q
  have h9 := hsum _ hm.1
  rw [dot_congr (a' := y) (b' := fun r => if r = c then 1 else (0 : Int)) _ (fun r hr => ⟨rfl, hrow r hr⟩), dot_upd y (fun _ => 0) c 1, dot_zero2, if_pos hc, hy] at h9
  have h10 : p ∣ 1 := dvd_of h9 (by omega)
  have := Int.le_of_dvd (by omega) h10
  omega
end
end Go.Proofs.Ytnebkhelobpkpaa

namespace Go.Proofs.Ytnebkhelobpkpaa
open Go.RowKit Go.Deep
set_option linter.unusedVariables false

noncomputable def trSel {α : Type} (p c : Int) (z : List (List Int)) (bad lim ok : α) : α :=
  if tell (MatOk p c z) = true then (if tell (MatOk p z.length (turned z c.toNat)) = true then ok else lim) else bad
theorem tr_bad {α : Type} {p c : Int} {z : List (List Int)} (h : ¬ MatOk p c z) (b l o : α) : trSel p c z b l o = b := by unfold trSel; rw [tell_false h]; rfl
theorem tr_lim {α : Type} {p c : Int} {z : List (List Int)} (h : MatOk p c z) (h2 : ¬ MatOk p z.length (turned z c.toNat)) (b l o : α) : trSel p c z b l o = l := by unfold trSel; rw [tell_true h, if_pos rfl, tell_false h2]; rfl
theorem tr_ok {α : Type} {p c : Int} {z : List (List Int)} (h : MatOk p c z) (h2 : MatOk p z.length (turned z c.toNat)) (b l o : α) : trSel p c z b l o = o := by unfold trSel; rw [tell_true h, if_pos rfl, tell_true h2]; rfl
theorem turned_len (z : List (List Int)) (n : Nat) : (turned z n).length = n := tab_len _ _ _
theorem turned_rlen (z : List (List Int)) (n : Nat) {r : Nat} (h : r < n) : (nthL (turned z n) r).length = z.length := tab_rlen _ _ _ h
theorem matr_small {p c : Int} {z : List (List Int)} (h : MatOk p c z) : Small2 z := ⟨by have := h.2.2.1; omega, fun r hr => by have := (h.2.2.2 r hr).1; have := h.2.1.2; omega⟩
theorem turned_small {p c : Int} {z : List (List Int)} (h : MatOk p c z) : Small2 (turned z c.toNat) := ⟨by rw [turned_len]; have := h.2.1.2; omega, fun r hr => by rw [turned_len] at hr; rw [turned_rlen z _ hr]; have := h.2.2.1; omega⟩
theorem tr_small (p c : Int) (z : List (List Int)) : Small2 (trSel p c z [] [] (turned z c.toNat)) := by
  have h0 : Small2 [] := ⟨by simp, fun r hr => absurd hr (Nat.not_lt_zero _)⟩
  by_cases h : MatOk p c z
  · by_cases h2 : MatOk p z.length (turned z c.toNat)
    · rw [tr_ok h h2]; exact turned_small h
    · rw [tr_lim h h2]; exact h0
  · rw [tr_bad h]; exact h0
theorem OwnG.gridn {W : World} {base n c : Nat} {p : Int} {a : Option Addr} {us : List Value} {zss : List (List Int)} (h : OwnG W base p (.slice a n c) us zss) : n = zss.length ∧ GridR W a p zss := h.gridv
end Go.Proofs.Ytnebkhelobpkpaa

namespace Go.Proofs.Ytnebkhelobpkpaa
open Go.RowKit Go.Deep
set_option linter.unusedVariables false

/-- The column k of the first i rows. -/
def colOf (z : List (List Int)) (k i : Nat) : List Int := (List.range i).map fun r => nth (nthL z r) k
theorem colOf_len (z : List (List Int)) (k i : Nat) : (colOf z k i).length = i := by simp [colOf]
theorem colOf_snoc (z : List (List Int)) (k i : Nat) : colOf z k (i + 1) = colOf z k i ++ [nth (nthL z i) k] := by simp [colOf, List.range_succ]
theorem turned_take (z : List (List Int)) (cn k : Nat) (h : k < cn) : (turned z cn).take (k + 1) = (turned z cn).take k ++ [colOf z k z.length] := by
  rw [take_snoc _ (by rw [turned_len]; exact h)]
  unfold turned colOf
  rw [tab_row _ _ _ h]

set_option maxRecDepth 100000 in
set_option maxHeartbeats 4000000 in
theorem l03Turned_any (q0 : Nat) (p : Int) (cn : Nat) (a : Option Addr) (z : List (List Int)) (ca : Nat) (w : World) (hbx : Boxes w q0 46 #[.int .i64 p, .int .i64 (cn : Int), .slice a z.length ca]) (hr : Rows2 w a z) (hz : z.length ≤ 1000) (hcn : cn ≤ 1000) (hrow : ∀ r, r < z.length → (nthL z r).length = cn) :
    Calls Try.prog 80 #[.pointer (some ⟨q0, 0, none⟩)] w fun e w' => (∃ va vc us, e = .returned (.agg #[.int .i64 p, .int .i64 (z.length : Int), .slice va cn vc]) ∧ Own w' w.heap.size (.slice va cn vc) us (turned z cn)) ∧ Below w.heap.size w w' := by
  have HR := Lib.hid hr
  have HRW := Lib.hid hrow
  have HQ := Lib.hid hbx
  have hq0 := hbx.lt
  clear hr hbx hrow
  go_enter Try.func80, Try.ntmps80
  go_wp2_with fail
  have hb1 := (Below.refl w.heap.size w).alloc (Nat.le_refl _) (.cells #[.int .i64 0, .int .i64 0, .slice none 0 0] 46)
  have HY := Lib.hid (show Boxes (w.alloc (.cells #[.int .i64 0, .int .i64 0, .slice none 0 0] 46)) w.heap.size 46 #[.int .i64 0, .int .i64 0, .slice none 0 0] from World.alloc_heap_new _ _)
  have HQ1 := Lib.hid (HQ.out.step hb1)
  have HB1 := Lib.hid hb1
  have hs1 : (w.alloc (.cells #[.int .i64 0, .int .i64 0, .slice none 0 0] 46)).heap.size = w.heap.size + 1 := by simp
  generalize w.alloc (.cells #[.int .i64 0, .int .i64 0, .slice none 0 0] 46) = w1 at *
  have x0 := HQ1.out.m0
  have x1 := HQ1.out.m1
  have x2 := HQ1.out.m2
  have hq1 := HQ1.out.lt
  clear hb1 HQ
  go_region
  have hb2 := ((Below.refl (w.heap.size + 1) w1).alloc (Nat.le_of_eq hs1.symm) (.cells #[.int .i64 p, .int .i64 (z.length : Int), .slice none 0 0] 46)).drew
  have hbo : Boxes (w1.alloc (.cells #[.int .i64 p, .int .i64 (z.length : Int), .slice none 0 0] 46)).drew (w.heap.size + 1) 46 #[.int .i64 p, .int .i64 (z.length : Int), .slice none 0 0] := by
    have : Boxes (w1.alloc (.cells #[.int .i64 p, .int .i64 (z.length : Int), .slice none 0 0] 46)) w1.heap.size 46 #[.int .i64 p, .int .i64 (z.length : Int), .slice none 0 0] := World.alloc_heap_new _ _
    rw [hs1] at this
    exact this.step (drew_step _)
  generalize (w1.alloc (.cells #[.int .i64 p, .int .i64 (z.length : Int), .slice none 0 0] 46)).drew = w2 at *
  have HB2 := Lib.hid hb2
  have HO := Lib.hid hbo
  have HY2 := Lib.hid (show Boxes w2 w.heap.size 46 #[.int .i64 0, .int .i64 0, .slice none 0 0] from (hb2.block w.heap.size (by omega)).trans HY.out)
  have HQ2 := Lib.hid (show Boxes w2 q0 46 #[.int .i64 p, .int .i64 (cn : Int), .slice a z.length ca] from (hb2.block q0 (by omega)).trans HQ1.out)
  have hs2 : w.heap.size + 2 ≤ w2.heap.size := hbo.lt
  generalize hoo : w.heap.size + 1 = oo at *
  have HOO := Lib.hid hoo
  clear hb2 hbo x0 x1 x2
  obtain ⟨i0, hi, hz0, hz1, hz2⟩ := info_parts Try.infoInt64
  obtain ⟨i1, ji, jz0, jz1, jz2⟩ := info_parts Try.infoInt64S
  go_wp2_with fail
  go_loopw [4, 5, 6] (fun i q5 q6 wr => ∃ (k : Nat) (va : Option Addr) (vc : Nat) (us : List Value), k ≤ cn ∧ i = .int .i64 k ∧ Boxes wr oo 46 #[.int .i64 p, .int .i64 (z.length : Int), .slice va k vc] ∧ Own wr (oo + 1) (.slice va k vc) us ((turned z cn).take k) ∧ Below oo w2 wr)
    (fun i _ _ _ => cn - (intOf i).toNat)
  case atStart => exact ⟨0, none, 0, [], Nat.zero_le _, rfl, HO.out, Own.nil3 _ _, Below.refl _ _⟩
  case round =>
    obtain ⟨k, va, vc, us, hk, rfl, hx, hown, hb⟩ := hrel
    have HXQ := Lib.hid hx
    have HOQ := Lib.hid hown
    have HBL := Lib.hid hb
    have hooq1 : oo + 1 ≤ wr.heap.size := hx.lt
    have bm1 := (hb.cell (p := ⟨q0, 1, none⟩) (show q0 < oo by omega)).trans HQ2.out.m1
    have HBW := Lib.hid (show Below w.heap.size w wr from HB1.out.trans ((HB2.out.mono (by omega)).trans (hb.mono (by omega))))
    clear hx hown hb
    obtain ⟨wo, rfl⟩ : ∃ wo : World, wo = wr := ⟨_, rfl⟩
    by_cases hlt : k < cn
    · have hi0 : (k : Int) < (cn : Int) := by omega
      go_wp2_with fail
      have hown0 : OwnI (wo.alloc (.cells #[] 2)) wo.heap.size (.slice (some ⟨wo.heap.size, 0, none⟩) 0 0) (colOf z k 0) := by
        exact World.ownsRow_made wo (base := wo.heap.size) (e := 2) (size := 1) #[] 0 (Nat.le_refl _) (by unfold maxLen; omega) rfl
      have HOW := Lib.hid hown0
      have HBA := Lib.hid ((Below.refl wo.heap.size wo).alloc (Nat.le_refl _) (.cells #[] 2))
      clear hown0
      generalize wo.alloc (.cells #[] 2) = w4 at *
      generalize (Value.slice (some ⟨wo.heap.size, 0, none⟩) 0 0) = v0 at *
      go_loopw [5, 6] (fun q5 i wi => ∃ (j : Nat), j ≤ z.length ∧ i = .int .i64 j ∧ OwnI wi wo.heap.size q5 (colOf z k j) ∧ Below wo.heap.size wo wi)
        (fun _ i _ => z.length - (intOf i).toNat)
      case atStart => exact ⟨0, Nat.zero_le _, rfl, HOW.out, HBA.out⟩
      case round =>
        obtain ⟨j, hj, rfl, ho, hb⟩ := hrel
        have HOI := Lib.hid ho
        have HBI := Lib.hid hb
        have hsz := hb.size
        have bi2 := (hb.cell (p := ⟨q0, 2, none⟩) (show q0 < wo.heap.size by omega)).trans ((HBL.out.cell (p := ⟨q0, 2, none⟩) (show q0 < oo by omega)).trans HQ2.out.m2)
        clear ho hb HOW HBA bm1
        by_cases hltj : j < z.length
        · have hr3 : Rows2 wr a z := HR.out.below (HBW.out.trans (HBI.out.mono HBW.out.size)) (Nat.le_refl _)
          rcases hr3 with h | ⟨zb, zo, rfl, hzc⟩
          · rw [h] at hltj; exact absurd hltj (Nat.not_lt_zero _)
          obtain ⟨ai, ci, hrow, hints⟩ := hzc j hltj
          have hlen := HRW.out j hltj
          have hj0 : (j : Int) < (z.length : Int) := by omega
          rcases hints with h | ⟨b2, o2, rfl, hc2⟩
          · exact absurd (show (nthL z j).length = 0 by rw [h]; rfl) (by omega)
          have hel := hc2 k (by omega)
          rw [hlen] at hrow
          have HCS := Lib.hid (colOf_snoc z k j)
          generalize nth (nthL z j) k = x at hel HCS
          have hlj : (colOf z k j).length = j := colOf_len z k j
          have HLJ := Lib.hid hlj
          clear hzc hc2 hlj
          go_wp2_with (at_builtin; refine wpList_append_own _ rfl _ _ 35 rfl wo.heap.size 2 i0 (.int .i64 0) 1 8 Try.underlying35 hi hz0 hz1 hz2 rfl (by decide) _ _ _ rfl (World.ownsRow.alloc HOI.out _) ⟨wr.heap.size, 0, none⟩ 1 1 [.int .i64 x] rfl rfl (cell_one_new _ _ _) (by simp [Value.oneCell']) (by rw [HLJ.out]; unfold maxLen; omega) (by rw [HLJ.out]; omega) (by simp; omega) ?_; intro v' w6 hown6 hgrow6 _)
          have H6 := Lib.hid (show OwnI w6 wo.heap.size v' (colOf z k (j + 1)) by
            rw [HCS.out]; unfold OwnI; rw [vals_snoc, List.length_append]; exact hown6)
          have HB6 := Lib.hid ((HBI.out.alloc hsz (.cells #[.int .i64 x] 2)).grown hgrow6 (by simp; omega) (fun q hq => (row_lt HOI.out hq).1))
          clear hown6 hgrow6
          go_wp2_with fail
          go_roundw
          case rel => exact ⟨j + 1, by omega, by go_num, H6.out, HB6.out⟩
          case measure => simp [intOf]; omega
        · have HE := Lib.hid (show j = z.length by omega)
          have hx1 := HXQ.out.step HBI.out
          have e2 := hx1.m2
          have f2 := hx1.frozen 2
          have hl1 := hx1.lt
          have hx1w : oo < wr.heap.size + 1 := by omega
          have HX1 := Lib.hid hx1
          have HOI2 := Lib.hid (show OwnI wr wo.heap.size u5 (colOf z k z.length) by have := HOI.out; rw [HE.out] at this; exact this)
          obtain ⟨ua, uc, hu5⟩ := rowForm HOI2.out
          rw [colOf_len] at hu5
          subst hu5
          have HRN := Lib.hid (HOQ.out.rows.snoc HBI.out HOI2.out hooq1)
          have HOG := Lib.hid (row_step HOQ.out.row HBI.out)
          have hlk : ((turned z cn).take k).length = k := by rw [List.length_take, turned_len]; omega
          have HLK := Lib.hid hlk
          have HTK := Lib.hid (turned_take z cn k hlt)
          clear hx1 hlk HOI
          go_wp2_with (at_builtin; refine wpList_append_own _ rfl _ _ 36 rfl (oo + 1) 35 i1 (.slice none 0 0) 1 24 Try.underlying36 ji jz0 jz1 jz2 rfl (by decide) _ _ us rfl (World.ownsRow.alloc HOG.out _) ⟨wr.heap.size, 0, none⟩ 1 1 [(.slice ua z.length uc)] rfl rfl (cell_one_new _ _ _) (by simp [Value.oneCell']) (by rw [HLK.out]; unfold maxLen; omega) (by rw [HLK.out]; omega) (by simp; omega) ?_; intro v' w7 hown7 hgrow7 _; rw [HLK.out] at hown7; obtain ⟨va', vc', rfl⟩ := rowForm hown7; have hxx := (HX1.out.step ((Below.refl _ _).alloc (Nat.le_refl _) (.cells #[(.slice ua z.length uc)] 35))).grown hgrow7 (row_ge HOG.out (Nat.lt_succ_self _)); have g2 := hxx.m2; have gf := hxx.frozen 2)
          have hz7 : oo < w7.heap.size := hxx.lt
          have HX7 := Lib.hid hxx
          have HO7 := Lib.hid hown7
          have HG7 := Lib.hid hgrow7
          clear hxx hown7 hgrow7
          go_wp2_with fail
          go_roundw
          case rel =>
            refine ⟨k + 1, va', vc', us ++ [(.slice ua z.length uc)], by omega, by go_num, HX7.out.set3d _, ⟨?_, ?_⟩, ?_⟩
            · have := row_set (u := .slice va' (k + 1) vc') (o := 2) HO7.out (Nat.lt_succ_self oo)
              rw [HTK.out, List.length_append, HLK.out]
              exact this
            · rw [HTK.out]
              refine (HRN.out.map (W' := w7) fun u zs ho => row_other (World.ownsRow.alloc ho _) (World.ownsRow.alloc HOG.out _) HG7.out (by decide)).map fun u zs ho => row_set ho (Nat.lt_succ_self oo) _
            · refine Below.setCell (p := ⟨oo, 2, none⟩) ?_ (Nat.le_refl oo) _
              exact ((HBL.out.trans (HBI.out.mono (by omega))).alloc (by omega) _).grown HG7.out (by simp; omega) (fun q hq => by have := row_lt HOG.out hq; omega)
          case measure => simp [intOf]; omega
    · have HE := Lib.hid (show k = cn by omega)
      have ht : (turned z cn).take k = turned z cn := by rw [HE.out]; exact List.take_of_length_le (by rw [turned_len]; omega)
      have ho := HOQ.out
      rw [ht, HE.out] at ho
      have c0 := HXQ.out.m0
      have c1 := HXQ.out.m1
      have c2 := HXQ.out.m2
      rw [HE.out] at c2
      have r0 := (HBL.out.cell (p := ⟨w.heap.size, 0, none⟩) (show w.heap.size < oo by omega)).trans HY2.out.m0
      have r1 := (HBL.out.cell (p := ⟨w.heap.size, 1, none⟩) (show w.heap.size < oo by omega)).trans HY2.out.m1
      have r2 := (HBL.out.cell (p := ⟨w.heap.size, 2, none⟩) (show w.heap.size < oo by omega)).trans HY2.out.m2
      have s0 := (HBL.out.frozen (p := ⟨w.heap.size, 0, none⟩) (show w.heap.size < oo by omega)).trans (HY2.out.frozen 0)
      have s1 := (HBL.out.frozen (p := ⟨w.heap.size, 1, none⟩) (show w.heap.size < oo by omega)).trans (HY2.out.frozen 1)
      have s2 := (HBL.out.frozen (p := ⟨w.heap.size, 2, none⟩) (show w.heap.size < oo by omega)).trans (HY2.out.frozen 2)
      have HO9 := Lib.hid ho
      clear ho ht
      go_wp2_with fail
      refine bodyPost_ret (v := .agg #[.int .i64 p, .int .i64 (z.length : Int), .slice va cn vc]) (by simp [results, Try.results80, go_sem, r0, r1, r2]) rfl ⟨⟨va, vc, us, rfl, ?_⟩, ?_⟩
      · have h9 := HOO.out
        exact ((((HO9.out.setCell3 (p := ⟨w.heap.size, 0, none⟩) (by show w.heap.size < oo + 1; omega) _).setCell3 (p := ⟨w.heap.size, 1, none⟩) (by show w.heap.size < oo + 1; omega) _).setCell3 (p := ⟨w.heap.size, 2, none⟩) (by show w.heap.size < oo + 1; omega) _)).mono3 (by omega)
      · exact (((HBW.out.setCell (p := ⟨w.heap.size, 0, none⟩) (Nat.le_refl _) _).setCell (p := ⟨w.heap.size, 1, none⟩) (Nat.le_refl _) _).setCell (p := ⟨w.heap.size, 2, none⟩) (Nat.le_refl _) _)
end Go.Proofs.Ytnebkhelobpkpaa

namespace Go.Proofs.Ytnebkhelobpkpaa
open Go.RowKit Go.Deep Go.Joins
set_option linter.unusedVariables false

theorem matr_smf {p c : Int} {z : List (List Int)} (h : MatOk p c z) : Small2 z := ⟨by have := h.2.2.1; omega, fun r hr => by have := (h.2.2.2 r hr).1; have := h.2.1.2; omega⟩
theorem turned_good {p : Int} {n : Nat} {z : List (List Int)} (h : GoodM p n z) (hz : z.length ≤ 1000) : GoodM p z.length (turned z n) :=
  ⟨h.prm, hz, by unfold turned; rw [tab_len]; exact h.hn, fun r hr => by
    unfold turned at hr ⊢
    rw [tab_len] at hr
    refine ⟨tab_rlen _ _ _ hr, fun i hi => ?_⟩
    rw [tab_rlen _ _ _ hr] at hi
    rw [tab_at _ _ _ hr hi]
    exact (h.rows i hi).2 r (by rw [(h.rows i hi).1]; exact hr)⟩
/-- The code of a matrix and a list of so many elements. -/
noncomputable def askCode (p c : Int) (z : List (List Int)) (v : List Int) (want : Int) : Int := if tell (MatOk p c z) = true then (if tell (RowOk p want v) = true then 0 else 2) else 1
theorem ask_bad {p c : Int} {z : List (List Int)} {v : List Int} (h : ¬ MatOk p c z) (want : Int) : askCode p c z v want = 1 := by unfold askCode; rw [tell_false h]; rfl
theorem ask_ok {p c : Int} {z : List (List Int)} {v : List Int} {want : Int} (h : MatOk p c z) (k : RowOk p want v) : askCode p c z v want = 0 := by unfold askCode; rw [tell_true h, tell_true k]; rfl
theorem ask_rng {p c : Int} {z : List (List Int)} {v : List Int} {want : Int} (h : MatOk p c z) (k : ¬ RowOk p want v) : askCode p c z v want = 2 := by unfold askCode; rw [tell_true h, tell_false k]; rfl
noncomputable def sfZs (p c : Int) (z : List (List Int)) (v : List Int) : List Int := if tell (MatOk p c z) = true then snL p c.toNat z v else []
noncomputable def sfCode (p c : Int) (z : List (List Int)) (v : List Int) : Int := if tell (MatOk p c z) = true then snCode p c.toNat z v else 1
noncomputable def cbZs (p c : Int) (z : List (List Int)) (v : List Int) : List Int := if tell (MatOk p c z) = true then snL p z.length (turned z c.toNat) v else []
noncomputable def cbCode (p c : Int) (z : List (List Int)) (v : List Int) : Int := if tell (MatOk p c z) = true then snCode p z.length (turned z c.toNat) v else 1
section
variable {p c : Int} {z : List (List Int)} {v : List Int}
theorem sf_bad (h : ¬ MatOk p c z) : sfZs p c z v = [] ∧ sfCode p c z v = 1 := by unfold sfZs sfCode; rw [tell_false h]; exact ⟨rfl, rfl⟩
theorem sf_ok (h : MatOk p c z) : sfZs p c z v = snL p c.toNat z v ∧ sfCode p c z v = snCode p c.toNat z v := by unfold sfZs sfCode; rw [tell_true h]; exact ⟨rfl, rfl⟩
theorem cb_bad (h : ¬ MatOk p c z) : cbZs p c z v = [] ∧ cbCode p c z v = 1 := by unfold cbZs cbCode; rw [tell_false h]; exact ⟨rfl, rfl⟩
theorem cb_ok (h : MatOk p c z) : cbZs p c z v = snL p z.length (turned z c.toNat) v ∧ cbCode p c z v = snCode p z.length (turned z c.toNat) v := by unfold cbZs cbCode; rw [tell_true h]; exact ⟨rfl, rfl⟩
theorem sf_not (h : ¬ (MatOk p c z ∧ RowOk p (z.length : Int) v)) : (askCode p c z v (z.length : Int) = 1 ∨ askCode p c z v (z.length : Int) = 2) ∧ sfZs p c z v = [] ∧ sfCode p c z v = askCode p c z v (z.length : Int) := by
  by_cases hm : MatOk p c z
  · have hr : ¬ RowOk p (z.length : Int) v := fun k => h ⟨hm, k⟩
    have hv : ¬ ValOk p z v := fun k => hr ⟨by have := k.1; omega, k.2⟩
    rw [(sf_ok hm).1, (sf_ok hm).2, (sn_no hv).1, (sn_no hv).2, ask_rng hm hr]
    exact ⟨.inr rfl, rfl, rfl⟩
  · rw [(sf_bad hm).1, (sf_bad hm).2, ask_bad hm]
    exact ⟨.inl rfl, rfl, rfl⟩
theorem cb_not (h : ¬ (MatOk p c z ∧ RowOk p (c : Int) v)) : (askCode p c z v (c : Int) = 1 ∨ askCode p c z v (c : Int) = 2) ∧ cbZs p c z v = [] ∧ cbCode p c z v = askCode p c z v (c : Int) := by
  by_cases hm : MatOk p c z
  · have hr : ¬ RowOk p (c : Int) v := fun k => h ⟨hm, k⟩
    have hv : ¬ ValOk p (turned z c.toNat) v := fun k => hr ⟨by have := k.1; unfold turned at this; rw [tab_len] at this; have := hm.2.1.1; omega, k.2⟩
    rw [(cb_ok hm).1, (cb_ok hm).2, (sn_no hv).1, (sn_no hv).2, ask_rng hm hr]
    exact ⟨.inr rfl, rfl, rfl⟩
  · rw [(cb_bad hm).1, (cb_bad hm).2, ask_bad hm]
    exact ⟨.inl rfl, rfl, rfl⟩
theorem sfZs_len : (sfZs p c z v).length ≤ 1048576 := by
  unfold sfZs
  split
  · next q => exact snL_len (by have := (of_tell q).2.1.2; omega)
  · simp
theorem cbZs_len : (cbZs p c z v).length ≤ 1048576 := by
  unfold cbZs
  split
  · next q => exact snL_len (by have := (of_tell q).2.2.1; omega)
  · simp
end

set_option maxRecDepth 100000 in
set_option maxHeartbeats 1000000 in
theorem l03Combine_any (q0 n ca cv : Nat) (p : Int) (a av : Option Addr) (z : List (List Int)) (v : List Int) (w : World) (hbx : Boxes w q0 46 #[.int .i64 p, .int .i64 ((n : Nat) : Int), .slice a z.length ca]) (hr : Rows2 w a z) (hg : GoodM p n z) (hn : n ≤ 999) (hz : z.length ≤ 999) (hv : Ints w av v) (hl : v.length = n) (he : Elems p v) :
    Calls Try.prog 147 #[.pointer (some ⟨q0, 0, none⟩), .slice av v.length cv] w fun e w' => (∃ u, e = .returned (.tuple #[u, .bool (tell (SolOk p z.length (turned z n) v))]) ∧ OwnI w' w.heap.size u (solL p z.length (turned z n) v)) ∧ Below w.heap.size w w' := by
  have HG := Lib.hid (turned_good hg (by omega))
  have HROW := Lib.hid (fun r (hr : r < z.length) => (hg.rows r hr).1)
  have HR := Lib.hid hr
  have HV := Lib.hid hv
  have HX := Lib.hid hbx
  have HL := Lib.hid hl
  have HE := Lib.hid he
  clear hbx hr hg hv hl he
  go_enter Try.func147, Try.ntmps147
  go_wp2_with fail
  refine (l03Turned_any q0 p n a z ca w HX.out HR.out (by omega) (by omega) HROW.out).mono ?_
  rintro e w1 ⟨⟨va, vc, us, rfl, ho⟩, hb1⟩
  have hbx : Boxes (w1.alloc (.cells #[.int .i64 p, .int .i64 (z.length : Int), .slice va n vc] 46)) w1.heap.size 46 #[.int .i64 p, .int .i64 ((z.length : Nat) : Int), .slice va (turned z n).length vc] := by
    unfold turned; rw [tab_len]; exact World.alloc_heap_new w1 _
  have hb2 := al_b w1 (.cells #[.int .i64 p, .int .i64 (z.length : Int), .slice va n vc] 46)
  have HX2 := Lib.hid hbx
  have HR2 := Lib.hid ((own_rows3 ho).below hb2 (Nat.le_refl _))
  have HV2 := Lib.hid ((HV.out.below hb1 (Nat.le_refl _)).below hb2 (Nat.le_refl _))
  have HB2 := Lib.hid (hb1.trans (hb2.mono hb1.size))
  clear hbx hb2 ho hb1
  go_wp2_with fail
  refine (l03Solve_any w1.heap.size z.length vc cv p va av (turned z n) v _ HX2.out HR2.out HG.out hz HV2.out (by unfold turned; rw [tab_len]; exact HL.out) HE.out).mono ?_
  generalize w1.alloc (.cells #[.int .i64 p, .int .i64 (z.length : Int), .slice va n vc] 46) = w2 at *
  rintro e w3 ⟨⟨u, rfl, hu⟩, hb3⟩
  have HU := Lib.hid (hu.mono HB2.out.size)
  have HB3 := Lib.hid (HB2.out.trans (hb3.mono HB2.out.size))
  clear hu hb3
  go_wp2_with fail
  go_ret2
  exact ⟨⟨_, rfl, HU.out⟩, HB3.out⟩

end Go.Proofs.Ytnebkhelobpkpaa

namespace Go.Proofs.Ytnebkhelobpkpaa
open Go.RowKit Go.Deep Go.Joins
set_option linter.unusedVariables false

set_option maxRecDepth 100000 in
set_option maxHeartbeats 4000000 in
theorem secretElements_any (p : Int) (n : Nat) (a : Option Addr) (m ca : Nat) (z : List (List Int)) (w : World) (hm : m = z.length) (hg : GoodM p n z) (h0 : 0 < n) (hn : n ≤ 999) (hz : z.length ≤ 999) (hr : GridR w a p z) :
    Calls Try.prog 65 #[.agg #[.slice a m ca, .int .i64 p, .int .i64 ((n : Nat) : Int)]] w (GivesIntsCode w (solL p z.length (turned z n) (fstL n)) (solCode p z.length (turned z n) (fstL n))) := by
  subst hm
  have HG := Lib.hid hg
  have hb1 := al_b w (.cells #[.slice a z.length ca, .int .i64 p, .int .i64 ((n : Nat) : Int)] 102)
  have HX := Lib.hid (show Boxes (w.alloc (.cells #[.slice a z.length ca, .int .i64 p, .int .i64 ((n : Nat) : Int)] 102)) w.heap.size 102 #[.slice a z.length ca, .int .i64 p, .int .i64 ((n : Nat) : Int)] from World.alloc_heap_new w _)
  have HR := Lib.hid (hr.below hb1 (Nat.le_refl _))
  have HB1 := Lib.hid hb1
  have HROW := Lib.hid (fun r (hr : r < z.length) => (hg.rows r hr).1)
  have HV := Lib.hid (sn_yes (n := z.length) (show ValOk p (turned z n) (fstL n) from ⟨by unfold turned; rw [tab_len, fstL_len], fstL_elems hg.prm.1 n⟩))
  clear hr hb1 hg
  go_enter Try.func65, Try.ntmps65
  go_wp2_with fail
  generalize w.alloc (.cells #[.slice a z.length ca, .int .i64 p, .int .i64 ((n : Nat) : Int)] 102) = w1 at *
  have hs1 := HB1.out.size
  have MK := Lib.hid (show ∀ w' : World, Below w1.heap.size w1 w' → w'.cell? ⟨w.heap.size, 0, none⟩ = some (.slice a z.length ca) ∧ w'.cell? ⟨w.heap.size, 1, none⟩ = some (.int .i64 p) ∧ w'.cell? ⟨w.heap.size, 2, none⟩ = some (.int .i64 ((n : Nat) : Int)) from fun w' hw => ⟨(HX.out.step hw).m0, (HX.out.step hw).m1, (HX.out.step hw).m2⟩)
  go_region_held3 (fun w' => w'.cell? ⟨w.heap.size, 0, none⟩ = some (.slice a z.length ca) ∧ w'.cell? ⟨w.heap.size, 1, none⟩ = some (.int .i64 p) ∧ w'.cell? ⟨w.heap.size, 2, none⟩ = some (.int .i64 ((n : Nat) : Int))) (first | exact MK.out _ (drew_step _) | exact MK.out _ HB3.out | exact MK.out _ HB4.out | exact MK.out _ HB5.out | fail) (first
    | (go_at_call 85; refine (transposed_any p n a ca z _ (HR.out.step (drew_step _)) (by omega) (by omega) HROW.out).mono ?_; rintro e w3 ⟨⟨v3, us3, rfl, ho3⟩, hb3⟩; obtain ⟨ta, tc, rfl⟩ := ho3.form; have HG3 := Lib.hid (grid_of ho3); have HB3 := Lib.hid (show Below w1.heap.size w1 w3 from (drew_step w1).trans hb3); clear ho3 hb3)
    | (go_at_call 77; refine (secretList_any n _ h0 (by omega)).mono ?_; rintro e w4 ⟨⟨v4, rfl, ho4⟩, hb4⟩; obtain ⟨la, lc, rfl⟩ := rowForm ho4; have HL4 := Lib.hid (Ints_of_own ho4); have HG4 := Lib.hid (HG3.out.step hb4); have HB4 := Lib.hid (HB3.out.trans (hb4.mono HB3.out.size)); clear ho4 hb4)
    | (go_at_call 78; refine (solution_any p z.length ta tc (turned z n) la (fstL n) lc _ (turned_good HG.out (by omega)) hz HG4.out HL4.out (by rw [fstL_len]; omega)).mono ?_; rintro e w5 ⟨⟨u, rfl, hu⟩, hb5⟩; have HB5 := Lib.hid (HB4.out.trans (hb5.mono HB4.out.size)); have HU := Lib.hid (hu.mono (show w.heap.size ≤ _ from Nat.le_trans hs1 HB4.out.size)); clear hu hb5))
  all_goals (
    go_wp2_with fail
    go_ret2
    exact ⟨⟨_, by rw [← HV.out.2]; rfl, by rw [← HV.out.1]; exact HU.out⟩, HB1.out.trans (HB5.out.mono hs1)⟩)

/-- What a scheme and a group give: b for a bad scheme, r for a list that is no group of it, else o. -/
noncomputable def oeSel {α : Type} (h f l : Int) (yo : List Int) (z : List (List Int)) (gs : List Int) (b r o : α) : α := if tell (SchOk h yo f l z) = true then (if tell (IsGrp h gs) = true then o else r) else b
theorem oe_bad {α : Type} {h f l : Int} {yo : List Int} {z : List (List Int)} {gs : List Int} (k : ¬ SchOk h yo f l z) (b r o : α) : oeSel h f l yo z gs b r o = b := by rw [oeSel, tell_false k]; rfl
theorem oe_rng {α : Type} {h f l : Int} {yo : List Int} {z : List (List Int)} {gs : List Int} (k : SchOk h yo f l z) (q : ¬ IsGrp h gs) (b r o : α) : oeSel h f l yo z gs b r o = r := by rw [oeSel, tell_true k, tell_false q]; rfl
theorem oe_ok {α : Type} {h f l : Int} {yo : List Int} {z : List (List Int)} {gs : List Int} (k : SchOk h yo f l z) (q : IsGrp h gs) (b r o : α) : oeSel h f l yo z gs b r o = o := by rw [oeSel, tell_true k, tell_true q]; rfl
section
variable (h f l : Int) (yo : List Int) (z : List (List Int)) (gs : List Int)
noncomputable def opL : List Int := solL f (partZ yo z gs).length (turned (partZ yo z gs) l.toNat) (fstL l.toNat)
noncomputable def opCode : Int := solCode f (partZ yo z gs).length (turned (partZ yo z gs) l.toNat) (fstL l.toNat)
noncomputable def oeL : List Int := oeSel h f l yo z gs [] [] (opL f l yo z gs)
noncomputable def oeCode : Int := oeSel h f l yo z gs 1 2 (opCode f l yo z gs)
noncomputable def soB : Bool := oeCode h f l yo z gs == 0
noncomputable def soCode : Int := if oeCode h f l yo z gs = 6 then 0 else oeCode h f l yo z gs
theorem oe_grp (k : ¬ (SchOk h yo f l z ∧ IsGrp h gs)) : (grpCode h f l yo z gs = 1 ∨ grpCode h f l yo z gs = 2) ∧ oeL h f l yo z gs = [] ∧ oeCode h f l yo z gs = grpCode h f l yo z gs := by
  by_cases h1 : SchOk h yo f l z
  · have h2 : ¬ IsGrp h gs := fun q => k ⟨h1, q⟩
    unfold oeL oeCode
    rw [oe_rng h1 h2, oe_rng h1 h2, (grp_no h1 h2).1]
    exact ⟨.inr rfl, rfl, rfl⟩
  · unfold oeL oeCode
    rw [oe_bad h1, oe_bad h1, (grp_bad (gs := gs) h1).1]
    exact ⟨.inl rfl, rfl, rfl⟩
theorem oeL_len : (oeL h f l yo z gs).length ≤ 1048576 := by
  by_cases h1 : SchOk h yo f l z
  · by_cases h2 : IsGrp h gs
    · unfold oeL opL
      rw [oe_ok h1 h2]
      have := partI_len yo gs
      exact solL_len (by rw [partZ_len]; have := h1.2.2.2.1; have := h1.2.1.2.2.1; omega)
    · unfold oeL; rw [oe_rng h1 h2]; simp
  · unfold oeL; rw [oe_bad h1]; simp
end

end Go.Proofs.Ytnebkhelobpkpaa

namespace Go.Proofs.Ytnebkhelobpkpaa
open Go.RowKit Go.Deep
set_option linter.unusedVariables false

/-- The columns of the dual scheme: the elements that make the secret's list, and the kernel of the columns. -/
noncomputable def dsC (f : Int) (n : Nat) (z : List (List Int)) : List (List Int) := solZ f z.length (turned z n) (fstL n) :: kerZ f z.length (turned z n)
noncomputable def dsD (f : Int) (n : Nat) (z : List (List Int)) : List (List Int) := turned (dsC f n z) z.length
noncomputable def dsSel {α : Type} (h f l : Int) (yo : List Int) (z : List (List Int)) (bad no lim ok : α) : α :=
  if tell (SchOk h yo f l z) = true then (if tell (SolOk f z.length (turned z l.toNat) (fstL l.toNat)) = true then (if tell (z.length ≤ 12 ∧ (dsC f l.toNat z).length ≤ 12) = true then ok else lim) else no) else bad
theorem ds_bad {h f l : Int} {yo : List Int} {z : List (List Int)} (k : ¬ SchOk h yo f l z) {α : Type} (b n m o : α) : dsSel h f l yo z b n m o = b := by unfold dsSel; rw [tell_false k]; rfl
theorem ds_no {h f : Int} {l : Nat} {yo : List Int} {z : List (List Int)} (k : SchOk h yo f (l : Int) z) (q : ¬ SolOk f z.length (turned z l) (fstL l)) {α : Type} (b n m o : α) : dsSel h f (l : Int) yo z b n m o = n := by unfold dsSel; rw [tell_true k, Int.toNat_natCast, tell_false q]; rfl
theorem ds_lim {h f : Int} {l : Nat} {yo : List Int} {z : List (List Int)} (k : SchOk h yo f (l : Int) z) (q : SolOk f z.length (turned z l) (fstL l)) (r : ¬ (z.length ≤ 12 ∧ (dsC f l z).length ≤ 12)) {α : Type} (b n m o : α) : dsSel h f (l : Int) yo z b n m o = m := by unfold dsSel; rw [tell_true k, Int.toNat_natCast, tell_true q, tell_false r]; rfl
theorem ds_ok {h f : Int} {l : Nat} {yo : List Int} {z : List (List Int)} (k : SchOk h yo f (l : Int) z) (q : SolOk f z.length (turned z l) (fstL l)) (r : z.length ≤ 12 ∧ (dsC f l z).length ≤ 12) {α : Type} (b n m o : α) : dsSel h f (l : Int) yo z b n m o = o := by unfold dsSel; rw [tell_true k, Int.toNat_natCast, tell_true q, tell_true r]; rfl
section
variable {h f : Int} {n : Nat} {yo : List Int} {z : List (List Int)}
theorem ds_goodM (k : SchOk h yo f (n : Int) z) : GoodM f n z := by have := GoodM.of k.2.1; rwa [Int.toNat_natCast] at this
theorem ds_turned (k : SchOk h yo f (n : Int) z) : GoodM f z.length (turned z n) := turned_good (ds_goodM k) (by have := k.2.1.2.2.1; omega)
theorem ds_matT (k : SchOk h yo f (n : Int) z) : MatOk f (z.length : Int) (turned z n) ↔ z.length ≤ 12 := by
  have hg := ds_turned k
  constructor
  · intro q; have := q.2.1.2; omega
  · intro q
    refine ⟨hg.prm, ⟨by omega, by omega⟩, by rw [turned_len]; have := k.2.1.2.1.2; omega, fun r hr => ⟨by rw [(hg.rows r hr).1], (hg.rows r hr).2⟩⟩
theorem ds_matK (k : SchOk h yo f (n : Int) z) (q : z.length ≤ 12) : MatOk f (z.length : Int) (kerZ f z.length (turned z n)) := by
  have := kerZ_mat ((ds_matT k).2 q)
  rwa [Int.toNat_natCast] at this
theorem ds_fst (k : SchOk h yo f (n : Int) z) : (solZ f z.length (turned z n) (fstL n)).length = z.length ∧ Elems f (solZ f z.length (turned z n) (fstL n)) := by
  have hg := ds_turned k
  exact ⟨solZ_len .., solZ_elems hg (by have := k.2.1.2.2.1; omega) (by rw [turned_len, fstL_len]) (fstL_elems hg.prm.1 n)⟩
theorem dsC_len : (dsC f n z).length = (kerZ f z.length (turned z n)).length + 1 := rfl
theorem dsC_at {r : Nat} : nthL (dsC f n z) r = if r = 0 then solZ f z.length (turned z n) (fstL n) else nthL (kerZ f z.length (turned z n)) (r - 1) := by
  unfold dsC
  cases r with
  | zero => simp [nthL]
  | succ r => simp [nthL]
theorem dsC_good (k : SchOk h yo f (n : Int) z) (q : z.length ≤ 12) : GoodM f z.length (dsC f n z) := by
  have hk := ds_matK k q
  refine ⟨hk.1, by omega, by rw [dsC_len]; have := hk.2.2.1; omega, fun r hr => ?_⟩
  rw [dsC_at]
  split
  · exact ds_fst k
  · have := hk.2.2.2 (r - 1) (by rw [dsC_len] at hr; omega)
    exact ⟨by have := this.1; omega, this.2⟩
theorem dsD_good (k : SchOk h yo f (n : Int) z) (q : z.length ≤ 12) : GoodM f (dsC f n z).length (dsD f n z) := turned_good (dsC_good k q) (dsC_good k q).hm
theorem dsD_len : (dsD f n z).length = z.length := turned_len _ _
theorem dsD_sch (k : SchOk h yo f (n : Int) z) (q : z.length ≤ 12) : SchOk h yo f ((dsC f n z).length : Int) (dsD f n z) ↔ (dsC f n z).length ≤ 12 := by
  have hg := dsD_good k q
  constructor
  · intro s; have := s.2.1.2.1.2; omega
  · intro s
    refine ⟨k.1, ⟨hg.prm, ⟨by omega, by omega⟩, by rw [dsD_len]; omega, fun r hr => ⟨by rw [(hg.rows r hr).1], (hg.rows r hr).2⟩⟩, by rw [dsC_len]; omega, by rw [dsD_len]; exact k.2.2.2.1, k.2.2.2.2⟩
end
theorem ds_small (h f l : Int) (yo : List Int) (z : List (List Int)) : SmS (dsSel h f l yo z [] [] [] yo) (dsSel h f l yo z [] [] [] (dsD f l.toNat z)) ∧ (dsSel h f l yo z [] [] [] yo).length ≤ 1000 := by
  have h0 : SmS [] [] := ⟨by simp, ⟨by simp, fun r hr => by simp at hr⟩⟩
  by_cases k : SchOk h yo f l z
  · have hl : 1 ≤ l := k.2.2.1
    obtain ⟨n, rfl⟩ : ∃ n : Nat, l = (n : Int) := ⟨l.toNat, by omega⟩
    by_cases q : SolOk f z.length (turned z n) (fstL n)
    · by_cases r : z.length ≤ 12 ∧ (dsC f n z).length ≤ 12
      · rw [ds_ok k q r, ds_ok k q r, Int.toNat_natCast]
        have hy := k.2.2.2.1
        have hg := dsD_good k r.1
        exact ⟨⟨by omega, ⟨by rw [dsD_len]; omega, fun i hi => by rw [(hg.rows i hi).1]; omega⟩⟩, by omega⟩
      · rw [ds_lim k q r, ds_lim k q r]; exact ⟨h0, by simp⟩
    · rw [ds_no k q, ds_no k q]; exact ⟨h0, by simp⟩
  · rw [ds_bad k, ds_bad k]; exact ⟨h0, by simp⟩
end Go.Proofs.Ytnebkhelobpkpaa

namespace Go.Proofs.Ytnebkhelobpkpaa
open Go.RowKit Go.Deep Go.Joins
set_option linter.unusedVariables false

/-- All blocks but those of these rows stay. -/
def KeepsU (us : List Value) (W W' : World) : Prop := ∀ (b : Nat) (o : Obj), W.heap[b]? = some o → (∀ u ∈ us, u.ownBlock ≠ some b) → W'.heap[b]? = some o
theorem KeepsU.refl (us : List Value) (W : World) : KeepsU us W W := fun _ _ h _ => h
theorem KeepsU.trans {us : List Value} {a b c : World} (h : KeepsU us a b) (k : KeepsU us b c) : KeepsU us a c := fun _ _ h1 h2 => k _ _ (h _ _ h1 h2) h2
theorem KeepsU.of_below (us : List Value) {a b : World} (h : Below a.heap.size a b) : KeepsU us a b := fun _ _ h1 _ => (h.block _ (Array.getElem?_eq_some_iff.1 h1).1).trans h1
theorem KeepsU.of_grown {us : List Value} {u : Value} {a b : World} (hu : u ∈ us) (hg : a.grownBy b u.ownBlock) : KeepsU us a b := fun q o h1 h2 => (hg.block q (Array.getElem?_eq_some_iff.1 h1).1 (fun e => h2 u hu e.symm)).trans h1
/-- What marks such slices, and nothing else. -/
structure MarkedO2 (W : World) (base : Nat) (v : Value) (us : List Value) (zss : List (List Int)) (k : Int) (e : Ending) (w' : World) : Prop where
  val : e = .returned (.int .i64 (k + total zss))
  own : Own w' base v us (marked k zss)
  below : Below base W w'
  size : W.heap.size ≤ w'.heap.size
  keep : KeepsU us W w'
set_option maxRecDepth 100000 in
set_option maxHeartbeats 600000 in
theorem markSSO2_any (v : Value) (us : List Value) (zss : List (List Int)) (base : Nat) (k : Int) (w : World) (ho : Own w base v us zss) (hs : Small2 zss) (hk0 : 0 ≤ k) (hk1 : k ≤ 2097153) (hbw : base ≤ w.heap.size) :
    Calls Try.prog 67 #[v, .int .i64 k] w (MarkedO2 w base v us zss k) := by
  obtain ⟨a, c, rfl⟩ := ho.form
  have hl1 : zss.length ≤ 1048576 := hs.1
  have HS := Lib.hid hs
  have HO := Lib.hid ho
  clear hs ho
  go_enter Try.func67, Try.ntmps67
  go_wp2_with fail
  go_loopw [1, 5] (fun q i wr => ∃ (j : Nat) (u : Int), j ≤ zss.length ∧ i = .int .i64 j ∧ q = .int .i64 u ∧ u = k + total (zss.take j) ∧ 0 ≤ u ∧ u ≤ 2097153 + j * 1048576 ∧ wr.ownsRow base 35 1 (.slice a zss.length c) zss.length us ∧ RowsOwn wr base us (marked k (zss.take j) ++ zss.drop j) ∧ Below base w wr ∧ KeepsU us w wr)
    (fun _ i _ => zss.length - (intOf i).toNat)
  case atStart => exact ⟨0, k, Nat.zero_le _, rfl, rfl, by simp [total], hk0, by omega, HO.out.row, by simpa [marked] using HO.out.rows, Below.refl _ _, KeepsU.refl _ _⟩
  case round =>
    obtain ⟨j, u, hj, rfl, rfl, hu, hu0, hu1, hrow, hrows, hbel, hkt⟩ := hrel
    have HKT := Lib.hid hkt
    clear hkt
    have HU := Lib.hid hu
    have HR := Lib.hid hrow
    have HRS := Lib.hid hrows
    have HB := Lib.hid hbel
    clear hu
    by_cases hlt : j < zss.length
    · have hju : j < us.length := by
        have := hrows.len
        simp only [List.length_append, marked_len, List.length_take, List.length_drop] at this
        omega
      obtain ⟨g, rfl, hc⟩ := row_cell hrow hlt
      obtain ⟨uj, huj⟩ : ∃ uj, us[j]? = some uj := ⟨us[j], List.getElem?_eq_getElem hju⟩
      rw [huj] at hc
      have hown : OwnI wr base uj (nthL zss j) := hrows.own j uj _ huj (by
        rw [List.getElem?_append_right (by rw [marked_len, List.length_take]; exact Nat.min_le_left _ _), marked_len, nthL_lt hlt]
        simp [Nat.min_eq_left (Nat.le_of_lt hlt), hlt])
      obtain ⟨ua, uc, rfl⟩ := hown.form
      have hj0 : (j : Int) < (zss.length : Int) := by omega
      have hlr := HS.out.2 j hlt
      have HT := Lib.hid (total_take hlt)
      have HH := Lib.hid (marked_half k zss hlt)
      have HUJ := Lib.hid huj
      have HOW := Lib.hid hown
      clear hju huj
      clear hown hrow hrows hbel
      go_wp2_with fail
      refine (markInt64S_any _ (nthL zss j) base u wr HOW.out hu0 (by omega) (by omega)).mono ?_
      rintro e w1 ⟨rfl, hown1, hsz1, hgr1⟩
      have H1 := Lib.hid (show w1.ownsRow base 35 1 (.slice (some ⟨g, 0, none⟩) zss.length c) zss.length us from HR.out.kept hgr1 (rows_apart HR.out HOW.out (by decide)))
      have H2 := Lib.hid (show RowsOwn w1 base us (marked k (zss.take (j + 1)) ++ zss.drop (j + 1)) from by
        rw [← HH.out, ← HU.out]
        exact HRS.out.setRow HUJ.out hown1 hgr1)
      have H3 := Lib.hid (show Below base w w1 from HB.out.grown hgr1 (Nat.le_trans hbw HB.out.size) (fun q hq => (HOW.out.lt hq).1))
      have H4 := Lib.hid (HKT.out.trans (KeepsU.of_grown (List.mem_of_getElem? HUJ.out) hgr1))
      have HU2 := Lib.hid (show u + (nthL zss j).length = k + total (zss.take (j + 1)) by rw [HT.out, HU.out]; omega)
      clear hown1 hsz1 hgr1
      go_wp2_with fail
      go_roundw
      case rel => exact ⟨j + 1, u + (nthL zss j).length, by omega, by go_num, rfl, HU2.out, by omega, by omega, H1.out, H2.out, H3.out, H4.out⟩
      case measure => simp [intOf]; omega
    · have HJ := Lib.hid (show j = zss.length by omega)
      clear hrow hrows hbel
      go_wp2_with fail
      go_ret
      have h1 := HRS.out
      rw [HJ.out, List.take_length, List.drop_length, List.append_nil] at h1
      exact ⟨by rw [HU.out, HJ.out, List.take_length]; rfl, ⟨by rw [marked_len]; exact HR.out, h1⟩, HB.out, HB.out.size, HKT.out⟩

set_option maxRecDepth 100000 in
theorem markMatO2_any (h l : Int) (v : Value) (us : List Value) (zss : List (List Int)) (base : Nat) (k : Int) (w : World) (ho : Own w base v us zss) (hs : Small2 zss) (hk0 : 0 ≤ k) (hk1 : k ≤ 2097153) (hbw : base ≤ w.heap.size) :
    Calls Try.prog 44 #[.agg #[.int .i64 h, .int .i64 l, v], .int .i64 k] w (MarkedO2 w base v us zss k) := by
  obtain ⟨a, c, rfl⟩ := ho.form
  have hb1 := (Below.refl w.heap.size w).alloc (Nat.le_refl _) (.cells #[.int .i64 h, .int .i64 l, .slice a zss.length c] 46)
  have HO := Lib.hid (ho.step hb1)
  have HS := Lib.hid hs
  clear ho hs
  go_enter Try.func44, Try.ntmps44
  go_wp2_with fail
  have hsz : w.heap.size ≤ (w.alloc (.cells #[.int .i64 h, .int .i64 l, .slice a zss.length c] 46)).heap.size := by simp
  refine (markSSO2_any _ us zss base k _ HO.out HS.out hk0 hk1 (Nat.le_trans hbw hsz)).mono ?_
  rintro e w2 ⟨rfl, ho2, hb2, hz2, hk2⟩
  have HK2 := Lib.hid ((KeepsU.of_below us hb1).trans hk2)
  have HO2 := Lib.hid ho2
  have HB2 := Lib.hid ((hb1.mono hbw).trans hb2)
  have HZ := Lib.hid (Nat.le_trans hsz hz2)
  clear ho2 hb2 hz2 hk2 hb1
  go_wp2_with fail
  go_ret
  exact ⟨rfl, HO2.out, HB2.out, HZ.out, HK2.out⟩
/-- A scheme's slices in memory of a call's own. -/
structure OwnSY (W : World) (base : Nat) (vo : Value) (yo : List Int) (v : Value) (us : List Value) (z : List (List Int)) : Prop where
  o : OwnI W base vo yo
  m : Own W base v us z
  s : Sep us vo
theorem OwnSY.step {W W' : World} {base : Nat} {vo : Value} {yo : List Int} {v : Value} {us : List Value} {z : List (List Int)} (h : OwnSY W base vo yo v us z) (hb : Below W.heap.size W W') : OwnSY W' base vo yo v us z := ⟨h.o.step hb, h.m.step hb, h.s⟩
theorem OwnSY.touch {lo hi : Nat} {w w' : World} (h : Touch lo hi w w') {base : Nat} {vo : Value} {yo : List Int} {v : Value} {us : List Value} {z : List (List Int)} (k : OwnSY w base vo yo v us z) (hb : hi ≤ base) : OwnSY w' base vo yo v us z := ⟨h.own k.o hb, Own.touch h k.m hb, k.s⟩
theorem OwnSY.form {W : World} {base : Nat} {vo : Value} {yo : List Int} {v : Value} {us : List Value} {z : List (List Int)} (h : OwnSY W base vo yo v us z) : ∃ ao co a c, vo = .slice ao yo.length co ∧ v = .slice a z.length c := by
  obtain ⟨ao, co, rfl⟩ := h.o.form
  obtain ⟨a, c, rfl⟩ := h.m.form
  exact ⟨ao, co, a, c, rfl, rfl⟩
theorem OwnSY.ins {W : World} {base n m co c : Nat} {ao a : Option Addr} {yo : List Int} {us : List Value} {z : List (List Int)} (h : OwnSY W base (.slice ao n co) yo (.slice a m c) us z) : InS W ao yo a z := ⟨Ints_of_own h.o, h.m.rows2v⟩
theorem OwnSY.sm {W : World} {base n m co c : Nat} {ao a : Option Addr} {yo : List Int} {us : List Value} {z : List (List Int)} {k : Int} (h : OwnSY W base (.slice ao n co) (marks k yo.length) (.slice a m c) us (marked (k + yo.length) z)) : Ints W ao (marks k yo.length) ∧ Rows2 W a (marked (k + yo.length) z) := ⟨Ints_of_own h.o, h.m.rows2v⟩
theorem row_setq {W : World} {base e size k : Nat} {v : Value} {xs : List Value} (h : W.ownsRow base e size v k xs) {p : Addr} (hp : p.block < base) (u : Value) : (W.setCell p u).ownsRow base e size v k xs := by
  refine h.kept ⟨rfl, rfl, rfl, (KeepsWalks.setCell W _ u).size, fun k _ hk => Below.heap_setCell _ _ _ k (fun e => hk (by rw [e]))⟩ (row := some p.block) ?_
  rcases h.2 with ⟨rfl, _⟩ | ⟨g, cap, cur, rfl, hg, _⟩
  · exact .inl rfl
  · refine .inr fun e' => ?_
    obtain rfl : g = p.block := by simpa [Value.ownBlock] using e'
    omega
theorem OwnSY.setCell2 {W : World} {base : Nat} {vo : Value} {yo : List Int} {v : Value} {us : List Value} {z : List (List Int)} (h : OwnSY W base vo yo v us z) {p : Addr} (hp : p.block < base) (u : Value) : OwnSY (W.setCell p u) base vo yo v us z :=
  ⟨row_setq h.o hp u, ⟨row_setq h.m.row hp u, h.m.rows.map fun _ _ k => row_setq k hp u⟩, h.s⟩
theorem Boxes.all5 {W : World} {B : Nat} {t : TypeId} {u0 u1 u2 u3 u4 : Value} (h : Boxes W B t #[u0, u1, u2, u3, u4]) (x0 x1 x2 x3 x4 : Value) : Boxes (((((W.setCell ⟨B, 0, none⟩ x0).setCell ⟨B, 1, none⟩ x1).setCell ⟨B, 2, none⟩ x2).setCell ⟨B, 3, none⟩ x3).setCell ⟨B, 4, none⟩ x4) B t #[x0, x1, x2, x3, x4] := by
  unfold Boxes at h ⊢
  simp [World.setCell, Array.getElem?_modify, h]
theorem OwnSY.set5 {W : World} {base q : Nat} {vo : Value} {yo : List Int} {v : Value} {us : List Value} {z : List (List Int)} (h : OwnSY W base vo yo v us z) (hq : q < base) (x0 x1 x2 x3 x4 : Value) : OwnSY (((((W.setCell ⟨q, 0, none⟩ x0).setCell ⟨q, 1, none⟩ x1).setCell ⟨q, 2, none⟩ x2).setCell ⟨q, 3, none⟩ x3).setCell ⟨q, 4, none⟩ x4) base vo yo v us z :=
  ((((h.setCell2 (p := ⟨q, 0, none⟩) hq x0).setCell2 (p := ⟨q, 1, none⟩) hq x1).setCell2 (p := ⟨q, 2, none⟩) hq x2).setCell2 (p := ⟨q, 3, none⟩) hq x3).setCell2 (p := ⟨q, 4, none⟩) hq x4
theorem below_set5 {B q : Nat} {w W : World} (h : Below B w W) (hB : B ≤ q) (x0 x1 x2 x3 x4 : Value) : Below B w (((((W.setCell ⟨q, 0, none⟩ x0).setCell ⟨q, 1, none⟩ x1).setCell ⟨q, 2, none⟩ x2).setCell ⟨q, 3, none⟩ x3).setCell ⟨q, 4, none⟩ x4) :=
  ((((h.setCell (p := ⟨q, 0, none⟩) hB x0).setCell (p := ⟨q, 1, none⟩) hB x1).setCell (p := ⟨q, 2, none⟩) hB x2).setCell (p := ⟨q, 3, none⟩) hB x3).setCell (p := ⟨q, 4, none⟩) hB x4
theorem boxes_new (w : World) (vs : Array Value) (t : TypeId) : Boxes (w.alloc (.cells vs t)) w.heap.size t vs := World.alloc_heap_new w _
theorem OwnI.keptU {W W' : World} {base : Nat} {us : List Value} {v : Value} {zs : List Int} (h : OwnI W base v zs) (hk : KeepsU us W W') (hs : Sep us v) : OwnI W' base v zs := by
  refine ⟨h.1, ?_⟩
  rcases h.2 with h2 | ⟨g, cap, cur, hv, hg, hh, r⟩
  · exact .inl h2
  · exact .inr ⟨g, cap, cur, hv, hg, hk g _ hh (fun u hu e => hs u hu g e (by rw [hv]; rfl)), r⟩
theorem KeepsT.of_keptU {W W' : World} {base : Nat} {us : List Value} {z : List (List Int)} (h : KeepsU us W W') (ho : RowsOwn W base us z) : KeepsT W W' := fun b vs t fr h1 h2 => by
  refine h b _ h1 fun u hu e => ?_
  obtain ⟨i, hi, rfl⟩ := List.mem_iff_getElem.1 hu
  have h3 := ho.own i us[i] (z[i]'(by rw [← ho.len]; exact hi)) (by simp [hi]) (by simp)
  rcases h3.2 with ⟨h4, _⟩ | ⟨g, cap, cur, h4, _, hgg, _⟩
  · rw [h4] at e; simp [Value.ownBlock] at e
  · rw [h4] at e
    simp [Value.ownBlock] at e
    subst e
    rw [hgg] at h1
    cases h1
    exact h2 rfl
/-- What marks a scheme. -/
structure MarkedSY (W : World) (base : Nat) (vo : Value) (yo : List Int) (v : Value) (us : List Value) (z : List (List Int)) (k : Int) (e : Ending) (w' : World) : Prop where
  val : e = .returned (.int .i64 (k + (yo.length + total z)))
  own : OwnSY w' base vo (marks k yo.length) v us (marked (k + yo.length) z)
  below : Below base W w'
  size : W.heap.size ≤ w'.heap.size
  keep : KeepsT W w'
set_option maxRecDepth 100000 in
theorem markSchO_any (h f l : Int) (vo : Value) (yo : List Int) (v : Value) (us : List Value) (z : List (List Int)) (base : Nat) (k : Int) (w : World) (ho : OwnSY w base vo yo v us z) (hs : SmS yo z) (hk0 : 0 ≤ k) (hk1 : k ≤ 1048576) (hbw : base ≤ w.heap.size) :
    Calls Try.prog 23 #[.agg #[.int .i64 h, vo, .int .i64 f, .int .i64 l, v], .int .i64 k] w (MarkedSY w base vo yo v us z k) := by
  obtain ⟨ao, co, a, c, rfl, rfl⟩ := ho.form
  have hb1 := (Below.refl w.heap.size w).alloc (Nat.le_refl _) (.cells #[.int .i64 h, .slice ao yo.length co, .int .i64 f, .int .i64 l, .slice a z.length c] 48)
  have ha := World.alloc_heap_new w (.cells #[.int .i64 h, .slice ao yo.length co, .int .i64 f, .int .i64 l, .slice a z.length c] 48)
  have HO := Lib.hid (ho.step hb1)
  have HS := Lib.hid hs
  have hyo : yo.length ≤ 1048576 := hs.o
  have hsz0 : w.heap.size ≤ (w.alloc (.cells #[.int .i64 h, .slice ao yo.length co, .int .i64 f, .int .i64 l, .slice a z.length c] 48)).heap.size := by simp
  clear ho hs
  go_enter Try.func23, Try.ntmps23
  go_wp2_with fail
  refine (markInt64S_any _ yo base k _ HO.out.o hk0 (by omega) (by omega)).mono ?_
  generalize w.alloc (.cells #[.int .i64 h, .slice ao yo.length co, .int .i64 f, .int .i64 l, .slice a z.length c] 48) = v1 at *
  rintro e w1 ⟨rfl, hown, hsz, hgr⟩
  have hkt := KeepsT.of_grown HO.out.o hgr
  have hbx : Boxes w1 w.heap.size 48 #[.int .i64 h, .slice ao yo.length co, .int .i64 f, .int .i64 l, .slice a z.length c] := Boxes.keeps ha hkt (by decide)
  have c2 := hbx.s2
  have c3 := hbx.s3
  have c4 := hbx.s4
  have HRr := Lib.hid (show w1.ownsRow base 35 1 (.slice a z.length c) z.length us from HO.out.m.row.kept hgr (rows_apart HO.out.m.row HO.out.o (by decide)))
  have HRo := Lib.hid (HO.out.m.rows.kept hgr HO.out.s.arm)
  have HI := Lib.hid hown
  have HB := Lib.hid ((hb1.mono hbw).grown hgr (Nat.le_trans hbw hsz0) (fun q hq => (HO.out.o.lt hq).1))
  have HK := Lib.hid ((KeepsT.of_below hb1).trans hkt)
  have hs1 : base ≤ w1.heap.size := by omega
  have HSP := Lib.hid HO.out.s
  have HZ1 := Lib.hid (show w.heap.size ≤ w1.heap.size by omega)
  clear hown hsz hgr hkt hbx ha hb1 HO
  have hk2 : (0 : Int) ≤ k + yo.length := by omega
  have hk3 : k + (yo.length : Int) ≤ 2097153 := by omega
  go_wp2_with fail
  refine (markMatO2_any f l _ us z base _ w1 ⟨HRr.out, HRo.out⟩ HS.out.r hk2 hk3 hs1).mono ?_
  rintro e w2 ⟨rfl, ho2, hb2, hz2, hk⟩
  have HO2 := Lib.hid (show OwnSY w2 base (.slice ao yo.length co) (marks k yo.length) (.slice a z.length c) us (marked (k + yo.length) z) from ⟨HI.out.keptU hk HSP.out, ho2, HSP.out⟩)
  have HB2 := Lib.hid (HB.out.trans hb2)
  have HZ2 := Lib.hid (Nat.le_trans HZ1.out hz2)
  have HK2 := Lib.hid (HK.out.trans (KeepsT.of_keptU hk HRo.out))
  clear ho2 hb2 hz2 hk
  go_wp2_with fail
  go_ret
  exact ⟨by rw [Int.add_assoc]; rfl, HO2.out, HB2.out, HZ2.out, HK2.out⟩
set_option maxRecDepth 100000 in
theorem heldSchO_any (h f l : Int) (ao : Option Addr) (co : Nat) (yo : List Int) (a : Option Addr) (c : Nat) (z : List (List Int)) (k : Int) (w : World) (hr : Ints w ao (marks k yo.length) ∧ Rows2 w a (marked (k + yo.length) z)) (hs : SmS yo z) (hk0 : 0 ≤ k) (hk1 : k + yo.length ≤ 1048576) :
    Calls Try.prog 34 #[.agg #[.int .i64 h, .slice ao yo.length co, .int .i64 f, .int .i64 l, .slice a z.length c], .int .i64 k] w fun e w' => e = .returned (.int .i64 (k + (yo.length + total z))) ∧ Below w.heap.size w w' := by
  have hb1 := (Below.refl w.heap.size w).alloc (Nat.le_refl _) (.cells #[.int .i64 h, .slice ao yo.length co, .int .i64 f, .int .i64 l, .slice a z.length c] 48)
  have HR := Lib.hid (hr.1.step hb1)
  have HRR := Lib.hid (hr.2.step hb1)
  have HS := Lib.hid hs
  have hn := total_nonneg z
  have hyo : yo.length ≤ 1048576 := hs.o
  have HB1 := Lib.hid hb1
  clear hr hs hb1
  have hk2 : (0 : Int) ≤ k + yo.length := by omega
  go_enter Try.func34, Try.ntmps34
  go_wp2_with fail
  refine (heldInt64S_any ao yo.length co k _ HR.out hk0 (by omega) (by omega)).mono ?_
  rintro e w2 ⟨rfl, rfl⟩
  go_wp2_with fail
  refine (heldMatO_any f l a c z _ _ HRR.out HS.out.r hk2 hk1).mono ?_
  rintro e w3 ⟨rfl, hb3⟩
  have HB3 := Lib.hid (chain HB1.out hb3)
  clear hb3
  have h0 : ¬ (k + (yo.length : Int) + total z < 0) := by omega
  go_wp2_with fail
  go_ret
  exact ⟨by rw [Int.add_assoc]; rfl, HB3.out⟩
end Go.Proofs.Ytnebkhelobpkpaa

namespace Go.Proofs.Ytnebkhelobpkpaa
open Go.RowKit Go.Deep
set_option linter.unusedVariables false

theorem dotTo_bound {a b : Nat → Int} {p : Int} (hp1 : p ≤ 31) (n : Nat) (ha : ∀ j, j < n → Elem p (a j)) (hb : ∀ j, j < n → Elem p (b j)) : ∀ k, k ≤ n → 0 ≤ dotTo a b k ∧ dotTo a b k ≤ 961 * k := by
  intro k
  induction k with
  | zero => intro _; simp [dotTo]
  | succ k ih =>
    intro hk
    obtain ⟨h1, h2⟩ := ih (by omega)
    obtain ⟨h3, h4⟩ := mul_bounds hp1 (ha k (by omega)) (hb k (by omega))
    simp only [dotTo]
    omega
theorem dotTo_congr {a b a' b' : Nat → Int} (n : Nat) (h : ∀ j, j < n → a j = a' j ∧ b j = b' j) : ∀ k, k ≤ n → dotTo a b k = dotTo a' b' k := by
  intro k
  induction k with
  | zero => intro _; rfl
  | succ k ih => intro hk; simp only [dotTo]; rw [ih (by omega), (h k (by omega)).1, (h k (by omega)).2]

set_option maxRecDepth 100000 in
set_option maxHeartbeats 1000000 in
theorem l03Dot_any (p : Int) (a b : Option Addr) (xs ys : List Int) (ca cb : Nat) (w : World) (hp : 2 ≤ p) (hp1 : p ≤ 31) (ha : Ints w a xs) (hb : Ints w b ys) (hl : xs.length = ys.length) (hl1 : xs.length ≤ 1000) (hx : Elems p xs) (hy : Elems p ys) :
    Calls Try.prog 138 #[.int .i64 p, .slice a xs.length ca, .slice b ys.length cb] w fun e w' => e = .returned (.int .i64 (dotTo (nth xs) (nth ys) xs.length % p)) ∧ Quiet w w' := by
  have HX := Lib.hid hx
  have HY := Lib.hid hy
  have HL := Lib.hid hl
  have HA := Lib.hid ha
  have HB := Lib.hid hb
  have hp0 : p ≠ 0 := by omega
  clear ha hb hx hy
  go_enter Try.func138, Try.ntmps138
  go_wp2_with fail
  go_loopw [7, 8] (fun s i wr => ∃ k : Nat, k ≤ xs.length ∧ i = .int .i64 k ∧ s = .int .i64 (dotTo (nth xs) (nth ys) k) ∧ Quiet w wr)
    (fun _ i _ => xs.length - (intOf i).toNat)
  case atStart => exact ⟨0, Nat.zero_le _, rfl, rfl, Quiet.refl _⟩
  case round =>
    obtain ⟨k, hk, rfl, rfl, hq⟩ := hrel
    have HQ := Lib.hid hq
    clear hq
    obtain ⟨s0, s1⟩ := dotTo_bound hp1 xs.length HX.out (fun j hj => HY.out j (by have := HL.out; omega)) k hk
    by_cases hlt : k < xs.length
    · have hlt2 : k < ys.length := by have := HL.out; omega
      rcases HA.out.quiet HQ.out with h | ⟨b1, o1, rfl, hc1⟩
      · rw [h] at hlt; exact absurd hlt (Nat.not_lt_zero _)
      rcases HB.out.quiet HQ.out with h | ⟨b2, o2, rfl, hc2⟩
      · rw [h] at hlt2; exact absurd hlt2 (Nat.not_lt_zero _)
      have d1 := hc1 k hlt
      have d2 := hc2 k hlt2
      have hk1 : (k : Int) < (xs.length : Int) := by omega
      have hk2 : (k : Int) < (ys.length : Int) := by omega
      obtain ⟨m0, m1⟩ := mul_bounds hp1 (HX.out k hlt) (HY.out k hlt2)
      have HS := Lib.hid (show dotTo (nth xs) (nth ys) (k + 1) = dotTo (nth xs) (nth ys) k + nth xs k * nth ys k from rfl)
      generalize hu : dotTo (nth xs) (nth ys) k = u at *
      generalize nth xs k = x at *
      generalize nth ys k = y at *
      clear hc1 hc2 hu
      go_wp2_with fail
      go_quiet (fail)
      go_wp2_with fail
      go_roundw
      case rel => exact ⟨k + 1, by omega, by go_num, by rw [HS.out], HQ.out.trans ⟨_, rfl⟩⟩
      case measure => simp [intOf]; omega
    · have HE := Lib.hid (show k = xs.length by omega)
      go_wp2_with fail
      go_ret
      exact ⟨by rw [← HE.out]; rfl, HQ.out⟩
end Go.Proofs.Ytnebkhelobpkpaa

namespace Go.Proofs.Ytnebkhelobpkpaa
open Go.RowKit Go.Deep Go.Joins Go.ChangeShapes Go.WideShapes Go.ChangeAt
set_option linter.unusedVariables false

/-- The shares of the first rows. -/
def shTo (f l : Int) (z : List (List Int)) (x : Int) (bl : List Int) (n : Nat) : List Int := (List.range n).map fun i => dotTo (nth (nthL z i)) (nth (x :: bl)) l.toNat % f
theorem shTo_len (f l : Int) (z : List (List Int)) (x : Int) (bl : List Int) (n : Nat) : (shTo f l z x bl n).length = n := by simp [shTo]
theorem shTo_snoc (f l : Int) (z : List (List Int)) (x : Int) (bl : List Int) (n : Nat) : shTo f l z x bl (n + 1) = shTo f l z x bl n ++ [dotTo (nth (nthL z n)) (nth (x :: bl)) l.toNat % f] := by simp [shTo, List.range_succ]
theorem alx_b (w : World) (o : Obj) : Below w.heap.size w (w.alloc o) := (Below.refl _ _).alloc (Nat.le_refl _) o

end Go.Proofs.Ytnebkhelobpkpaa

namespace Go.Proofs.Ytnebkhelobpkpaa
open Go.RowKit Go.Deep
set_option linter.unusedVariables false

/-- What a scheme, a secret and blinds give: b for a bad scheme, r for values out of range, else o. -/
noncomputable def shSel {α : Type} (h f l : Int) (yo : List Int) (z : List (List Int)) (x : Int) (bl : List Int) (b r o : α) : α := if tell (SchOk h yo f l z) = true then (if tell (Elem f x ∧ RowOk f (l - 1) bl) = true then o else r) else b
noncomputable def shZs (h f l : Int) (yo : List Int) (z : List (List Int)) (x : Int) (bl : List Int) : List Int := shSel h f l yo z x bl [] [] (shTo f l z x bl z.length)
noncomputable def shCode (h f l : Int) (yo : List Int) (z : List (List Int)) (x : Int) (bl : List Int) : Int := shSel h f l yo z x bl 1 2 0
theorem sh_bad {α : Type} {h f l : Int} {yo : List Int} {z : List (List Int)} {x : Int} {bl : List Int} (k : tell (SchOk h yo f l z) = false) (b r o : α) : shSel h f l yo z x bl b r o = b := by rw [shSel, k]; rfl
theorem sh_rng {α : Type} {h f l : Int} {yo : List Int} {z : List (List Int)} {x : Int} {bl : List Int} (k : tell (SchOk h yo f l z) = true) (q : ¬ (Elem f x ∧ RowOk f (l - 1) bl)) (b r o : α) : shSel h f l yo z x bl b r o = r := by rw [shSel, k, tell_false q]; rfl
theorem sh_ok {α : Type} {h f l : Int} {yo : List Int} {z : List (List Int)} {x : Int} {bl : List Int} (k : tell (SchOk h yo f l z) = true) (q : Elem f x ∧ RowOk f (l - 1) bl) (b r o : α) : shSel h f l yo z x bl b r o = o := by rw [shSel, k, tell_true q]; rfl
theorem shZs_len (h f l : Int) (yo : List Int) (z : List (List Int)) (x : Int) (bl : List Int) : (shZs h f l yo z x bl).length ≤ 1048576 := by
  unfold shZs shSel
  split
  · next q =>
    split
    · rw [shTo_len]; have := (of_tell q).2.1.2.2.1; omega
    · simp
  · simp

end Go.Proofs.Ytnebkhelobpkpaa

namespace Go.Proofs.Ytnebkhelobpkpaa
open Go.RowKit Go.Deep
set_option linter.unusedVariables false

noncomputable def prSel {α : Type} (p c : Int) (z : List (List Int)) (q d : Int) (y : List (List Int)) (bad rng ok : α) : α :=
  if tell (MatOk p c z ∧ MatOk q d y) = true then (if p = q ∧ c = (y.length : Int) then ok else rng) else bad
theorem pr_bad {α : Type} {p c q d : Int} {z y : List (List Int)} (h : ¬ (MatOk p c z ∧ MatOk q d y)) (b r o : α) : prSel p c z q d y b r o = b := by unfold prSel; rw [tell_false h]; rfl
theorem pr_rng {α : Type} {p c q d : Int} {z y : List (List Int)} (h : MatOk p c z ∧ MatOk q d y) (h2 : ¬ (p = q ∧ c = (y.length : Int))) (b r o : α) : prSel p c z q d y b r o = r := by unfold prSel; rw [tell_true h, if_pos rfl, if_neg h2]
theorem pr_ok {α : Type} {p c q d : Int} {z y : List (List Int)} (h : MatOk p c z ∧ MatOk q d y) (h2 : p = q ∧ c = (y.length : Int)) (b r o : α) : prSel p c z q d y b r o = o := by unfold prSel; rw [tell_true h, if_pos rfl, if_pos h2]
theorem prod_len (z y : List (List Int)) (p : Int) (cn n : Nat) : (prod z y p cn n).length = z.length := tab_len _ _ _
theorem prod_rlen (z y : List (List Int)) (p : Int) (cn n : Nat) {r : Nat} (h : r < z.length) : (nthL (prod z y p cn n) r).length = n := tab_rlen _ _ _ h
theorem prod_small {p c q d : Int} {z y : List (List Int)} (h : MatOk p c z) (h2 : MatOk q d y) (m : Int) (cn : Nat) : Small2 (prod z y m cn d.toNat) := ⟨by rw [prod_len]; have := h.2.2.1; omega, fun r hr => by rw [prod_len] at hr; rw [prod_rlen _ _ _ _ _ hr]; have := h2.2.1.2; omega⟩
theorem pr_small (p c : Int) (z : List (List Int)) (q d : Int) (y : List (List Int)) : Small2 (prSel p c z q d y [] [] (prod z y p c.toNat d.toNat)) := by
  have h0 : Small2 [] := ⟨by simp, fun r hr => absurd hr (Nat.not_lt_zero _)⟩
  by_cases h : MatOk p c z ∧ MatOk q d y
  · by_cases h2 : p = q ∧ c = (y.length : Int)
    · rw [pr_ok h h2]; exact prod_small h.1 h.2 _ _
    · rw [pr_rng h h2]; exact h0
  · rw [pr_bad h]; exact h0
theorem matr_small2 {p c : Int} {z : List (List Int)} (h : MatOk p c z) : Small2 z := ⟨by have := h.2.2.1; omega, fun r hr => by have := (h.2.2.2 r hr).1; have := h.2.1.2; omega⟩
end Go.Proofs.Ytnebkhelobpkpaa

namespace Go.Proofs.Ytnebkhelobpkpaa
open Go.RowKit Go.Deep
set_option linter.unusedVariables false

theorem OwnG.grid2 {W : World} {base n c : Nat} {p : Int} {a : Option Addr} {us : List Value} {zss : List (List Int)} (h : OwnG W base p (.slice a n c) us zss) : GridR W a p zss := by
  obtain ⟨a', c', e, hr⟩ := h.grid
  cases e
  exact hr
theorem gtimesI_any (p c d : Int) (cn on : Nat) (a b : Option Addr) (ca cb : Nat) (z y : List (List Int)) (w : World) (hc : c = (cn : Int)) (hd : d = (on : Int)) (hp : 2 ≤ p) (hp1 : p ≤ 31) (hr : GridR w a p z) (hr' : GridR w b p y) (hz1 : z.length ≤ 1000) (hcn : cn ≤ 1000) (hon : on ≤ 1000)
    (hrow : ∀ r, r < z.length → (nthL z r).length = cn ∧ Elems p (nthL z r)) (hy : y.length = cn) (hrow' : ∀ r, r < y.length → (nthL y r).length = on ∧ Elems p (nthL y r)) :
    Calls Try.prog 104 #[.agg #[.slice a z.length ca, .int .i64 p, .int .i64 c], .agg #[.slice b y.length cb, .int .i64 p, .int .i64 d]] w fun e w' => (∃ v us, e = .returned (.agg #[v, .int .i64 p, .int .i64 d]) ∧ OwnG w' w.heap.size p v us (prod z y p cn on)) ∧ Below w.heap.size w w' := by
  subst hc; subst hd
  exact gtimes_any p cn on a b ca cb z y w hp hp1 hr hr' hz1 hcn hon hrow hy hrow'

end Go.Proofs.Ytnebkhelobpkpaa

namespace Go.Proofs.Ytnebkhelobpkpaa
open Go.RowKit Go.Deep Go.Joins
set_option linter.unusedVariables false

set_option maxRecDepth 100000 in
set_option maxHeartbeats 1000000 in
theorem gridOfLists_any (p c : Int) (a : Option Addr) (zss : List (List Int)) (cc : Nat) (w : World) (hr : Rows2 w a zss) (hs : Small2 zss) :
    Calls Try.prog 75 #[.int .i64 p, .int .i64 c, .slice a zss.length cc] w fun e w' => (∃ v us, e = .returned (.agg #[v, .int .i64 p, .int .i64 c]) ∧ OwnG w' w.heap.size p v us zss) ∧ Below w.heap.size w w' := by
  have hb1 := (Below.refl w.heap.size w).alloc (Nat.le_refl _) (.cells #[.slice none 0 0, .int .i64 0, .int .i64 0] 102)
  have hx1 : Boxes (w.alloc (.cells #[.slice none 0 0, .int .i64 0, .int .i64 0] 102)) w.heap.size 102 #[.slice none 0 0, .int .i64 0, .int .i64 0] := World.alloc_heap_new w _
  have HR := Lib.hid (hr.below hb1 (Nat.le_refl _))
  have HS := Lib.hid hs
  have HB := Lib.hid hb1
  have HX := Lib.hid hx1
  have hsz : (w.alloc (.cells #[.slice none 0 0, .int .i64 0, .int .i64 0] 102)).heap.size = w.heap.size + 1 := by simp
  clear hr hs hb1 hx1
  go_enter Try.func75, Try.ntmps75
  go_wp2_with fail
  refine (gridOf_any p c a zss cc _ HR.out HS.out).mono ?_
  generalize w.alloc (.cells #[.slice none 0 0, .int .i64 0, .int .i64 0] 102) = w1 at *
  rintro e w2 ⟨⟨v, us, rfl, ho⟩, hb⟩
  have HX2 := Lib.hid (HX.out.step hb)
  have HB2 := Lib.hid (HB.out.trans (hb.mono HB.out.size))
  have HO := Lib.hid ho
  obtain ⟨va, vc, rfl⟩ := ho.form
  have c0 := HX2.out.m0
  have c1 := HX2.out.m1
  have c2 := HX2.out.m2
  have f0 := HX2.out.frozen 0
  have f1 := HX2.out.frozen 1
  have f2 := HX2.out.frozen 2
  have hlt := HX2.out.lt
  clear ho hb
  go_wp2_with fail
  refine bodyPost_ret (v := .agg #[.slice va zss.length vc, .int .i64 p, .int .i64 c]) (by simp [results, Try.results75, go_sem, c0, c1, c2]) rfl ⟨⟨_, us, rfl, ?_⟩, ?_⟩
  · exact (((HO.out.setCell2 (p := ⟨w.heap.size, 0, none⟩) (by show w.heap.size < w1.heap.size; omega) _).setCell2 (p := ⟨w.heap.size, 1, none⟩) (by show w.heap.size < w1.heap.size; omega) _).setCell2 (p := ⟨w.heap.size, 2, none⟩) (by show w.heap.size < w1.heap.size; omega) _).mono (by omega)
  · exact ((HB2.out.setCell (p := ⟨w.heap.size, 0, none⟩) (Nat.le_refl _) _).setCell (p := ⟨w.heap.size, 1, none⟩) (Nat.le_refl _) _).setCell (p := ⟨w.heap.size, 2, none⟩) (Nat.le_refl _) _
end Go.Proofs.Ytnebkhelobpkpaa

namespace Go.Proofs.Ytnebkhelobpkpaa
open Go.RowKit Go.Deep Go.Joins
set_option linter.unusedVariables false

theorem sh_tlen (z : List (List Int)) (n : Nat) : (turned z n).length = n := tab_len _ _ _
theorem sh_trow {z : List (List Int)} {n : Nat} {f : Int} (hz : ∀ r, r < z.length → (nthL z r).length = n ∧ Elems f (nthL z r)) : ∀ r, r < (turned z n).length → (nthL (turned z n) r).length = z.length ∧ Elems f (nthL (turned z n) r) := fun r hr => by
  rw [sh_tlen] at hr
  have h1 : (nthL (turned z n) r).length = z.length := tab_rlen _ _ _ hr
  refine ⟨h1, fun i hi => ?_⟩
  rw [h1] at hi
  rw [turned, tab_at _ _ _ hr hi]
  exact (hz i hi).2 r (by rw [(hz i hi).1]; exact hr)
theorem dot_comm (a b : Nat → Int) : ∀ k, dotTo a b k = dotTo b a k
  | 0 => rfl
  | k + 1 => by simp only [dotTo]; rw [dot_comm a b k, Int.mul_comm]
theorem sh_row0 (f : Int) (z : List (List Int)) (x : Int) (bl : List Int) (n : Nat) : nthL (prod [x :: bl] (turned z n) f n z.length) 0 = shTo f (n : Int) z x bl z.length := by
  unfold prod
  rw [tab_row _ _ _ (by simp)]
  unfold shTo
  refine List.map_congr_left fun c hc => ?_
  have hc' : c < z.length := by simpa using hc
  show dotTo (nth (x :: bl)) (fun q => nth (nthL (turned z n) q) c) n % f = _
  rw [Int.toNat_natCast, dot_comm]
  rw [dotTo_congr (a' := nth (nthL z c)) (b' := nth (x :: bl)) n (fun j hj => ⟨by show nth (nthL (turned z n) j) c = _; unfold turned; rw [tab_at _ _ _ hj hc'], rfl⟩) n (Nat.le_refl _)]
theorem sh_first {W : World} {base : Nat} {v : Value} {us : List Value} {pz : List (List Int)} (h : Own W base v us pz) (h1 : pz.length = 1) : ∃ (g c : Nat) (ua : Option Addr) (uc : Nat), v = .slice (some ⟨g, 0, none⟩) 1 c ∧ W.cell? ⟨g, 0, none⟩ = some (.slice ua (nthL pz 0).length uc) ∧ OwnI W base (.slice ua (nthL pz 0).length uc) (nthL pz 0) ∧ g < W.heap.size := by
  obtain ⟨g, c, rfl, hg0, hg1⟩ := h.row.form (by omega)
  have hu : us.length = 1 := by rw [h.rows.len]; exact h1
  have hc := World.ownsRow.cellAt h.row 0 (by omega)
  rw [List.getElem?_eq_getElem (by omega)] at hc
  have ho := h.rows.own 0 us[0] pz[0] (by simp [hu]) (by simp [h1])
  have e : nthL pz 0 = pz[0] := nthL_lt (by omega)
  rw [← e] at ho
  obtain ⟨ua, uc, hv⟩ := rowForm ho
  rw [hv] at hc ho
  exact ⟨g, c, ua, uc, by rw [h1], hc, ho, hg1⟩
theorem run_field_g (v : Value) (p c : Int) (w : World) : Sem.run Try.prog (Instr.field 102 (.agg #[v, .int .i64 p, .int .i64 c]) 0) w = .ok v w := by
  simp [Instr.field, asAgg, go_sem]
theorem gridOf2 {W : World} {base n c : Nat} {p : Int} {a : Option Addr} {us : List Value} {zss : List (List Int)} (h : OwnG W base p (.slice a n c) us zss) : GridR W a p zss := h.grid2
end Go.Proofs.Ytnebkhelobpkpaa

namespace Go.Proofs.Ytnebkhelobpkpaa
open Go.RowKit Go.Deep Go.Joins
set_option linter.unusedVariables false

theorem box_set0 {W : World} {B : Nat} {t : TypeId} {u0 u1 u2 : Value} (h : Boxes W B t #[u0, u1, u2]) (v : Value) : Boxes (W.setCell ⟨B, 0, none⟩ v) B t #[v, u1, u2] := h.set3 v
theorem box_set1 {W : World} {B : Nat} {t : TypeId} {u0 u1 u2 : Value} (h : Boxes W B t #[u0, u1, u2]) (v : Value) : Boxes (W.setCell ⟨B, 1, none⟩ v) B t #[u0, v, u2] := by
  unfold Boxes at h ⊢
  simp [World.setCell, Array.getElem?_modify, h]
theorem box_set2 {W : World} {B : Nat} {t : TypeId} {u0 u1 u2 : Value} (h : Boxes W B t #[u0, u1, u2]) (v : Value) : Boxes (W.setCell ⟨B, 2, none⟩ v) B t #[u0, u1, v] := by
  unfold Boxes at h ⊢
  simp [World.setCell, Array.getElem?_modify, h]
theorem box_sets {W : World} {B : Nat} {t : TypeId} {u0 u1 u2 : Value} (h : Boxes W B t #[u0, u1, u2]) (v0 v1 v2 : Value) : Boxes (((W.setCell ⟨B, 0, none⟩ v0).setCell ⟨B, 1, none⟩ v1).setCell ⟨B, 2, none⟩ v2) B t #[v0, v1, v2] := box_set2 (box_set1 (box_set0 h v0) v1) v2
theorem own_setb {W : World} {base B o : Nat} {p : Int} {v : Value} {us : List Value} {zss : List (List Int)} (h : OwnG W base p v us zss) {vs : Array Value} (hx : Boxes W B 102 vs) (u : Value) : OwnG (W.setCell ⟨B, o, none⟩ u) base p v us zss := ⟨row_setb h.row hx.is (by decide) u, h.rows.map fun _ _ k => row_setb k hx.is (by decide) u⟩
theorem own_sets {W : World} {base B : Nat} {p : Int} {v : Value} {us : List Value} {zss : List (List Int)} {u0 u1 u2 : Value} (h : OwnG W base p v us zss) (hx : Boxes W B 102 #[u0, u1, u2]) (v0 v1 v2 : Value) : OwnG (((W.setCell ⟨B, 0, none⟩ v0).setCell ⟨B, 1, none⟩ v1).setCell ⟨B, 2, none⟩ v2) base p v us zss := own_setb (own_setb (own_setb h hx v0) (box_set0 hx v0) v1) (box_set1 (box_set0 hx v0) v1) v2
theorem below_sets {W W' : World} {base B : Nat} (h : Below base W W') (hB : base ≤ B) (v0 v1 v2 : Value) : Below base W (((W'.setCell ⟨B, 0, none⟩ v0).setCell ⟨B, 1, none⟩ v1).setCell ⟨B, 2, none⟩ v2) := ((h.setCell (p := ⟨B, 0, none⟩) hB v0).setCell (p := ⟨B, 1, none⟩) hB v1).setCell (p := ⟨B, 2, none⟩) hB v2

theorem sh_alloc_b (W w8 : World) (vs : Array Value) (t : TypeId) (hb : Below (W.alloc (.cells vs t)).drew.heap.size (W.alloc (.cells vs t)).drew w8) : Boxes w8 W.heap.size t vs := Boxes.step (Boxes.step (World.alloc_heap_new W _) (drew_step _)) hb
theorem sh_b1 (W w8 : World) (hb : Below W.drew.heap.size W.drew w8) : Below W.heap.size W w8 := (drew_step W).trans hb
theorem sh_b2 (W w8 : World) (o : Obj) (hb : Below (W.alloc o).drew.heap.size (W.alloc o).drew w8) : Below W.heap.size W w8 := (((Below.refl _ _).alloc (Nat.le_refl _) o).drew).trans (hb.mono (by simp))

/-- A list's elements and blinds, as two rows. -/
theorem sh_rows {W : World} {b g cb : Nat} {ab : Option Addr} {x : Int} {bl : List Int} (h0 : W.cell? ⟨b, 0, none⟩ = some (.slice (some ⟨g, 0, none⟩) 1 1)) (h1 : W.cell? ⟨b, 1, none⟩ = some (.slice ab bl.length cb)) (hx : W.cell? ⟨g, 0, none⟩ = some (.int .i64 x)) (hb : Ints W ab bl) : Rows2 W (some ⟨b, 0, none⟩) [[x], bl] := by
  refine .inr ⟨b, 0, rfl, fun i hi => ?_⟩
  match i, hi with
  | 0, _ =>
    refine ⟨some ⟨g, 0, none⟩, 1, h0, .inr ⟨g, 0, rfl, fun j hj => ?_⟩⟩
    have : j = 0 := by simpa [nthL] using hj
    subst this
    simpa [nthL, nth] using hx
  | 1, _ => exact ⟨ab, cb, h1, hb⟩
theorem sh_rows1 {W : World} {b cb : Nat} {aa : Option Addr} {zs : List Int} (h0 : W.cell? ⟨b, 0, none⟩ = some (.slice aa zs.length cb)) (hb : Ints W aa zs) : Rows2 W (some ⟨b, 0, none⟩) [zs] := by
  refine .inr ⟨b, 0, rfl, fun i hi => ?_⟩
  match i, hi with
  | 0, _ => exact ⟨aa, cb, h0, hb⟩
theorem sh_flat (x : Int) (bl : List Int) : [[x], bl].flatten = x :: bl := by simp
theorem bx0 (W w8 : World) (vs : Array Value) (t : TypeId) (o1 o2 : Obj) (hb : Below (((W.alloc (.cells vs t)).alloc o1).alloc o2).drew.heap.size (((W.alloc (.cells vs t)).alloc o1).alloc o2).drew w8) : Boxes w8 W.heap.size t vs := Boxes.step (Boxes.step (Boxes.step (Boxes.step (World.alloc_heap_new W _) (alx_b _ o1)) (alx_b _ o2)) (drew_step _)) hb
theorem bx1 (W w8 : World) (vs : Array Value) (t : TypeId) (o1 o2 : Obj) (hb : Below (((W.alloc o1).alloc (.cells vs t)).alloc o2).drew.heap.size (((W.alloc o1).alloc (.cells vs t)).alloc o2).drew w8) : Boxes w8 (W.heap.size + 1) t vs := by
  have h := Boxes.step (Boxes.step (Boxes.step (World.alloc_heap_new (W.alloc o1) (.cells vs t)) (alx_b _ o2)) (drew_step _)) hb
  simpa only [World.size_alloc] using h
theorem bx2 (W w8 : World) (vs : Array Value) (t : TypeId) (o1 o2 : Obj) (hb : Below (((W.alloc o1).alloc o2).alloc (.cells vs t)).drew.heap.size (((W.alloc o1).alloc o2).alloc (.cells vs t)).drew w8) : Boxes w8 (W.heap.size + 2) t vs := by
  have h := Boxes.step (Boxes.step (World.alloc_heap_new ((W.alloc o1).alloc o2) (.cells vs t)) (drew_step _)) hb
  simpa only [World.size_alloc] using h
theorem by0 (W w8 : World) (vs : Array Value) (t : TypeId) (o1 : Obj) (hb : Below ((W.alloc (.cells vs t)).alloc o1).heap.size ((W.alloc (.cells vs t)).alloc o1) w8) : Boxes w8 W.heap.size t vs := Boxes.step (Boxes.step (World.alloc_heap_new W _) (alx_b _ o1)) hb
theorem by1 (W w8 : World) (vs : Array Value) (t : TypeId) (o1 : Obj) (hb : Below ((W.alloc o1).alloc (.cells vs t)).heap.size ((W.alloc o1).alloc (.cells vs t)) w8) : Boxes w8 (W.heap.size + 1) t vs := by
  have h := Boxes.step (World.alloc_heap_new (W.alloc o1) (.cells vs t)) hb
  simpa only [World.size_alloc] using h
theorem own_g0 {W : World} {base : Nat} {p : Int} {v : Value} {us : List Value} {zs : List Int} (h : OwnG W base p v us [zs]) : ∃ a c, v = .slice a 1 c := h.form

end Go.Proofs.Ytnebkhelobpkpaa

namespace Go.Proofs.Ytnebkhelobpkpaa
open Go.RowKit Go.Deep Go.Joins
set_option linter.unusedVariables false

theorem run_append_zero {P : Program} (w : World) (t ty e : TypeId) (i : TypeInfo) (ht : P.underlying t = some (.slice e)) (hi : P.info? e = some i) (g n cap : Nat) (xa : Option Addr) (c : Nat) (hcap : n ≤ cap) :
    (Builtin.append_ #[t, t] ty #[.slice (some ⟨g, 0, none⟩) n cap, .slice xa 0 c]).run P w = .ok (.slice (some ⟨g, 0, none⟩) n cap) w := by
  cases xa <;> simp [Builtin.append_, run_underlying ht, sizeOf, typeInfo, hi, Builtin.lenOf, Builtin.firstCells, loadCells, loadCellsFrom, storeCells, hcap]
theorem step_append_zero {P : Program} (w : World) {ops : Array Oper} {o : Oper} {a : Act} {K : Act → World → Prop} {Q : Exit → Act → World → Prop} {E : Prop} (hgd : o.guard = none) (s x : Operand) (t : TypeId)
    (ho : o.op = .call { callee := .builtin .append, args := #[s, x], argTypes := #[t, t] }) (e : TypeId) (i : TypeInfo) (ht : P.underlying t = some (.slice e)) (hi : P.info? e = some i)
    (g n cap : Nat) (xa : Option Addr) (c : Nat) (hcap : n ≤ cap) (hs : a.eval s = .slice (some ⟨g, 0, none⟩) n cap) (hx : a.eval x = .slice xa 0 c) (h : K (a.put o.dst (.slice (some ⟨g, 0, none⟩) n cap)) w) :
    if Region.wanted o (yielded ops a.tmps) = true then Oper.wp P o a w K Q else E := by
  have hw : Region.wanted o (yielded ops a.tmps) = true := by simp [Region.wanted, hgd]
  rw [if_pos hw]
  have hr := run_append_zero (P := P) w t o.type e i ht hi g n cap xa c hcap
  unfold Oper.wp execOp
  simp only [ho, resolve, invoke, builtin, Sem.run_bind, Sem.run_pure, Result.andThen_ok, List.map_toArray, List.map_cons, List.map_nil, hs, hx, hr]
  exact h

theorem step_append_both {P : Program} {w : World} {ops : Array Oper} {o : Oper} {a : Act} {K : Act → World → Prop} {Q : Exit → Act → World → Prop} {E : Prop} (hgd : o.guard = none) (s x : Operand) (t : TypeId)
    (ho : o.op = .call { callee := .builtin .append, args := #[s, x], argTypes := #[t, t] })
    (base : Nat) (e : TypeId) (i : TypeInfo) (z : Value) (bytes : Nat) (ht : P.underlying t = some (.slice e)) (hi : P.info? e = some i) (hz : i.zero = some z)
    (hsize : i.size = 1) (hby : i.bytes = bytes) (hzs : z.cells.size = 1)
    (g0 n cap0 : Nat) (xs : List Value) (hs : a.eval s = .slice (some ⟨g0, 0, none⟩) n cap0) (hown : w.ownsRow base e 1 (.slice (some ⟨g0, 0, none⟩) n cap0) n xs)
    (b2 : Nat) (xa : Option Addr) (m c : Nat) (news : List Value) (hx : a.eval x = .slice xa m c) (hnr : w.ownsRow b2 e 1 (.slice xa m c) m news) (h1 : ∀ u ∈ news, u.oneCell' = true)
    (h63 : n + m ≤ maxLen) (hbytes : (n + m) * bytes ≤ 140737488355328) (hbase : base ≤ w.heap.size)
    (h : ∀ g cap w', w.ownsRow base e 1 (.slice (some ⟨g0, 0, none⟩) n cap0) n xs → base ≤ g0 → w'.ownsRow base e 1 (.slice (some ⟨g, 0, none⟩) (n + m) cap) (n + m) (xs ++ news) → w.grownBy w' (some g0) → K (a.put o.dst (.slice (some ⟨g, 0, none⟩) (n + m) cap)) w') :
    if Region.wanted o (yielded ops a.tmps) = true then Oper.wp P o a w K Q else E := by
  have hg0 : base ≤ g0 ∧ n ≤ cap0 := by
    rcases hown.2 with ⟨hv, _⟩ | ⟨g, cap, cur, hv, hb, _, hle, _⟩
    · cases hv
    · cases hv; exact ⟨hb, hle⟩
  have hl := hnr.1
  rw [Nat.mul_one] at hl
  by_cases hm : m = 0
  · subst hm
    have hn0 : news = [] := List.eq_nil_of_length_eq_zero hl
    subst hn0
    refine step_append_zero w hgd s x t ho e i ht hi g0 n cap0 xa c hg0.2 hs hx ?_
    exact h g0 cap0 w hown hg0.1 (by simpa using hown) (World.grownBy.refl _ _)
  · obtain ⟨g2, c2, hv, _, _⟩ := World.ownsRow.form hnr (by omega)
    cases hv
    refine step_append_lies w hgd s x t ho base e i z 1 bytes ht hi hz hsize hby hzs (by decide) _ n xs hs hown ⟨g2, 0, none⟩ m c news hx (by omega) (fun j u hj => ?_) h1 (by omega) h63 hbytes hbase _ rfl ?_
    · have hjl := (List.getElem?_eq_some_iff.1 hj).1
      have := World.ownsRow.cellAt hnr j (by omega)
      rw [hj] at this
      rw [Go.WideShapes.add_plain, Nat.zero_add]; exact this
    · intro g cap w' ho' hg' _ _
      exact h g cap w' hown hg0.1 ho' hg'
theorem ds_rows {W : World} {base b2 g cap k uc m : Nat} {ua : Option Addr} {fst : List Int} {us : List Value} {KZ : List (List Int)} (hm : fst.length = m) (hr : W.ownsRow base 35 1 (.slice (some ⟨g, 0, none⟩) (1 + k) cap) (1 + k) ([.slice ua m uc] ++ us)) (hf : Ints W ua fst) (ho : RowsOwn W b2 us KZ) (hk : KZ.length = k) : Rows2 W (some ⟨g, 0, none⟩) (fst :: KZ) := by
  subst hm
  refine .inr ⟨g, 0, rfl, fun i hi => ?_⟩
  have hc := World.ownsRow.cellAt hr i (by simp at hi; omega)
  cases i with
  | zero => exact ⟨ua, uc, by rw [Nat.zero_add, hc]; rfl, hf⟩
  | succ i =>
    have hik : i < KZ.length := by simpa using hi
    have hu : i < us.length := by rw [ho.len]; exact hik
    obtain ⟨a', c', e, hI, _⟩ := (ho.own i us[i] KZ[i] (by simp [hu]) (by simp [hik])).ints
    refine ⟨a', c', ?_, by simpa [nthL, hik] using hI⟩
    rw [Nat.zero_add, hc, List.getElem?_append_right (by simp), List.length_singleton, Nat.add_sub_cancel, List.getElem?_eq_getElem hu, e]
    simp [nthL, hik]
theorem rows_cells {W : World} {b : Nat} {us : List Value} {KZ : List (List Int)} (ho : RowsOwn W b us KZ) : ∀ u ∈ us, u.oneCell' = true := fun u hu => by
  obtain ⟨i, hi, rfl⟩ := List.mem_iff_getElem.1 hu
  obtain ⟨a', c', e⟩ := (ho.own i us[i] (KZ[i]'(by rw [← ho.len]; exact hi)) (by simp [hi]) (by simp)).form
  rw [e]; simp [Value.oneCell']
theorem own_box {W : World} {base b : Nat} {v : Value} {t : TypeId} (h : Boxes W b t #[v]) (hb : base ≤ b) : W.ownsRow base t 1 (.slice (some ⟨b, 0, none⟩) 1 1) 1 [v] :=
  ⟨rfl, .inr ⟨b, 1, #[v], rfl, hb, h, Nat.le_refl _, by unfold maxLen; omega, rfl, rfl⟩⟩
theorem kb1 (W w8 : World) (vs us : Array Value) (t t2 : TypeId) (hb : Below ((W.alloc (.cells vs t)).alloc (.cells us t2)).drew.heap.size ((W.alloc (.cells vs t)).alloc (.cells us t2)).drew w8) : Boxes w8 W.heap.size t vs := Boxes.step (Boxes.step (Boxes.step (World.alloc_heap_new W _) (alx_b _ _)) (drew_step _)) hb
theorem kb2 (W w8 : World) (vs us : Array Value) (t t2 : TypeId) (hb : Below ((W.alloc (.cells us t2)).alloc (.cells vs t)).drew.heap.size ((W.alloc (.cells us t2)).alloc (.cells vs t)).drew w8) : Boxes w8 (W.heap.size + 1) t vs := by
  have h := Boxes.step (Boxes.step (World.alloc_heap_new (W.alloc (.cells us t2)) (.cells vs t)) (drew_step _)) hb
  simpa only [World.size_alloc] using h
theorem bx_two (W : World) (us vs : Array Value) (t2 t : TypeId) : Boxes ((W.alloc (.cells us t2)).alloc (.cells vs t)) (W.heap.size + 1) t vs := by
  have h : Boxes ((W.alloc (.cells us t2)).alloc (.cells vs t)) (W.alloc (.cells us t2)).heap.size t vs := World.alloc_heap_new (W.alloc (.cells us t2)) (.cells vs t)
  rw [World.size_alloc] at h
  exact h
theorem bx_new (W : World) (vs : Array Value) (t : TypeId) : Boxes (W.alloc (.cells vs t)) W.heap.size t vs := World.alloc_heap_new W _
theorem cell_set5 {W : World} {b q o : Nat} {v : Value} (h : W.cell? ⟨b, o, none⟩ = some v) (hne : b ≠ q) (x0 x1 x2 x3 x4 : Value) : (((((W.setCell ⟨q, 0, none⟩ x0).setCell ⟨q, 1, none⟩ x1).setCell ⟨q, 2, none⟩ x2).setCell ⟨q, 3, none⟩ x3).setCell ⟨q, 4, none⟩ x4).cell? ⟨b, o, none⟩ = some v := by
  rw [World.cell?_setCell_other _ _ _ _ (by simp <;> omega), World.cell?_setCell_other _ _ _ _ (by simp <;> omega), World.cell?_setCell_other _ _ _ _ (by simp <;> omega), World.cell?_setCell_other _ _ _ _ (by simp <;> omega), World.cell?_setCell_other _ _ _ _ (by simp <;> omega)]
  exact h
theorem lists_eq (p : Int) (a : Option Addr) (zss : List (List Int)) (ca m : Nat) (w : World) (hm : zss.length = m) (hr : GridR w a p zss) (hs : Small2 zss) :
    Calls Try.prog 76 #[.slice a m ca] w fun e w' => (∃ v us, e = .returned v ∧ Own w' w.heap.size v us zss) ∧ Below w.heap.size w w' := by subst hm; exact lists_any p a zss ca w hr hs
theorem gridOfLists_eq (p c : Int) (a : Option Addr) (zss : List (List Int)) (cc m : Nat) (w : World) (hm : zss.length = m) (hr : Rows2 w a zss) (hs : Small2 zss) :
    Calls Try.prog 75 #[.int .i64 p, .int .i64 c, .slice a m cc] w fun e w' => (∃ v us, e = .returned (.agg #[v, .int .i64 p, .int .i64 c]) ∧ OwnG w' w.heap.size p v us zss) ∧ Below w.heap.size w w' := by subst hm; exact gridOfLists_any p c a zss cc w hr hs
theorem solve_eq (q0 n ca cv m k : Nat) (p : Int) (a av : Option Addr) (z : List (List Int)) (v : List Int) (w : World) (hm : z.length = m) (hk : v.length = k) (hbx : Boxes w q0 46 #[.int .i64 p, .int .i64 ((n : Nat) : Int), .slice a m ca]) (hr : Rows2 w a z) (hg : GoodM p n z) (hn : n ≤ 999) (hv : Ints w av v) (hl : v.length = z.length) (he : Elems p v) :
    Calls Try.prog 72 #[.pointer (some ⟨q0, 0, none⟩), .slice av k cv] w fun e w' => (∃ u, e = .returned (.tuple #[u, .bool (tell (SolOk p n z v))]) ∧ OwnI w' w.heap.size u (solL p n z v)) ∧ Below w.heap.size w w' := by subst hm; subst hk; exact l03Solve_any q0 n ca cv p a av z v w hbx hr hg hn hv hl he

end Go.Proofs.Ytnebkhelobpkpaa

namespace Go.Proofs.Ytnebkhelobpkpaa
open Go.RowKit Go.Deep Go.Joins Go.ChangeShapes Go.WideShapes Go.ChangeAt
set_option linter.unusedVariables false

set_option maxRecDepth 100000 in
set_option maxHeartbeats 1000000 in
theorem indexI_any (fa : Option Addr) (fc : Nat) (F : List Nat) (k base : Nat) (w : World) (h : w.ownsRow base 3 1 (.slice fa F.length fc) F.length (cols F)) (hl : F.length ≤ 1000) :
    Calls Try.prog 166 #[.slice fa F.length fc, .int .i64 (k : Int)] w fun e w' => (∃ r : Int, e = .returned (.int .i64 r) ∧ (0 ≤ r ↔ k ∈ F)) ∧ w = w' := by
  have H := Lib.hid h
  clear h
  go_enter Try.func166, Try.ntmps166
  go_wp2
  go_loop [5, 8] (fun n i => ∃ j : Nat, i = .int .i64 j ∧ j ≤ F.length ∧ ∀ q, q < j → nthN F q ≠ k)
    (fun _ i => F.length - (intOf i).toNat)
  case atStart => exact ⟨0, rfl, Nat.zero_le _, fun j hj => absurd hj (Nat.not_lt_zero _)⟩
  case round =>
    obtain ⟨j, rfl, hj, hno⟩ := hrel
    have HN := Lib.hid hno
    clear hno
    by_cases hlt : j < F.length
    · obtain ⟨fb, fcap, hfe, -, -⟩ := H.out.form (by omega)
      cases hfe
      have hfk := World.ownsRow.cellAt H.out j (by omega)
      rw [cols_at hlt] at hfk
      have hi0 : (j : Int) < (F.length : Int) := by omega
      obtain ⟨r, hr⟩ : ∃ r, nthN F j = r := ⟨_, rfl⟩
      rw [hr] at hfk
      have HR := Lib.hid hr
      clear hr
      by_cases he : k = r
      · subst he
        have HM := Lib.hid (show k ∈ F by rw [← HR.out]; exact nthN_mem hlt)
        go_wp2
        go_ret
        exact ⟨⟨(j : Int), rfl, ⟨fun _ => HM.out, fun _ => by omega⟩⟩, rfl⟩
      · have e1 : ¬ (k : Int) = (r : Int) := by omega
        have HE := Lib.hid he
        clear he
        go_wp2
        go_round
        case rel => exact ⟨j + 1, by go_num, by omega, fun q hq => by
          by_cases e : q = j
          · subst e; rw [HR.out]; exact fun q => HE.out q.symm
          · exact HN.out q (by omega)⟩
        case measure => simp [intOf]; omega
    · have HE := Lib.hid (show k ∉ F from fun hm => by
        obtain ⟨i, hi, hv⟩ := List.getElem_of_mem hm
        exact HN.out i (by omega) (by rw [nthN_lt hi]; exact hv))
      have hi0 : ¬ (j : Int) < (F.length : Int) := by omega
      go_wp2
      go_ret
      exact ⟨⟨-1, rfl, ⟨fun q => absurd q (by omega), fun q => absurd q HE.out⟩⟩, rfl⟩
set_option maxRecDepth 100000 in
theorem containsI_any (fa : Option Addr) (fc : Nat) (F : List Nat) (k base : Nat) (w : World) (h : w.ownsRow base 3 1 (.slice fa F.length fc) F.length (cols F)) (hl : F.length ≤ 1000) :
    Calls Try.prog 134 #[.slice fa F.length fc, .int .i64 (k : Int)] w fun e w' => e = .returned (.bool (tell (k ∈ F))) ∧ w = w' := by
  go_enter Try.func134, Try.ntmps134
  go_wp2_with fail
  refine (indexI_any fa fc F k base w h hl).mono ?_
  rintro e w' ⟨⟨r, rfl, hr⟩, rfl⟩
  by_cases hm : k ∈ F
  · have h0 : 0 ≤ r := hr.2 hm
    have h1 : ¬ r < 0 := by omega
    have HT := Lib.hid (tell_true hm)
    clear hr hm
    go_wp2_with fail
    go_ret
    exact ⟨ret_bool HT.out.symm, rfl⟩
  · have h0 : ¬ 0 ≤ r := fun q => hm (hr.1 q)
    have h1 : r < 0 := by omega
    have HT := Lib.hid (tell_false hm)
    clear hr hm
    go_wp2_with fail
    go_ret
    exact ⟨by first | exact ret_bool HT.out.symm | (rw [HT.out]; rfl) | (rw [HT.out]; simp; omega), rfl⟩

theorem OwnN.cellsAt {W : World} {base g n cap : Nat} {p : Int} {r : Nat → Int} (h : OwnN W base p (.slice (some ⟨g, 0, none⟩) n cap) (rowOf n r)) {j : Nat} (hj : j < n) : W.cell? ⟨g, j * 2, none⟩ = some (.int .i64 p) ∧ W.cell? ⟨g, j * 2 + 1, none⟩ = some (.int .i64 (r j)) := by
  have hl : j < (rowOf n r).length := by rw [rowOf_len]; exact hj
  have h' : W.ownsRow base 126 2 (.slice (some ⟨g, 0, none⟩) n cap) n (numCells p (rowOf n r)) := by have h0 := h; unfold OwnN at h0; rw [rowOf_len] at h0; exact h0
  refine ⟨?_, ?_⟩
  · rw [World.ownsRow.cellAt h' (j * 2) (by omega), numCells_get0 p _ hl]
  · rw [World.ownsRow.cellAt h' (j * 2 + 1) (by omega), numCells_get1 p _ hl, rowOf_at _ _ hj]
theorem OwnN.fzAt {W : World} {base g n cap : Nat} {p : Int} {zs : List Int} (h : OwnN W base p (.slice (some ⟨g, 0, none⟩) n cap) zs) (j : Nat) : W.frozen? ⟨g, j, none⟩ = false := by
  obtain ⟨a', c', e⟩ := rowForm h
  cases e
  exact World.ownsRow.frozenAt h j
theorem OwnN.glt {W : World} {base g n cap : Nat} {p : Int} {zs : List Int} (h : OwnN W base p (.slice (some ⟨g, 0, none⟩) n cap) zs) : base ≤ g ∧ g < W.heap.size := row_lt h rfl
theorem rowOf_set (n k : Nat) (y : Int) (r : Nat → Int) : (rowOf n r).set k y = rowOf n (fun j => if j = k then y else r j) := by
  refine ext_nth (by simp [rowOf]) fun i hi => ?_
  have hi' : i < n := by simpa [rowOf] using hi
  rw [rowOf_at _ _ hi', nth_lt hi]
  by_cases e : i = k
  · subst e; simp
  · rw [List.getElem_set_ne (fun q => e q.symm), if_neg e]
    simp [rowOf]

set_option maxRecDepth 100000 in
set_option maxHeartbeats 8000000 in
theorem kernel_any (p x : Int) (n m rc fc base : Nat) (ra fa : Option Addr) (us : List Value) (f : Nat → Nat → Int) (F : List Nat) (z : List (List Int)) (w : World) (ho : OwnG w base p (.slice ra m rc) us (tab m n f)) (hfi : w.ownsRow base 3 1 (.slice fa F.length fc) F.length (cols F)) (hF : F = echF p n z) (ht : tab F.length n f = echZ p n z) (hFm : F.length ≤ m) (hel : ∀ i, i < m → ∀ j, j < n → Elem p (f i j)) (hp0 : 2 ≤ p) (hp1 : p ≤ 31) (hm : m ≤ 1000) (hn : n ≤ 1000) :
    Calls Try.prog 87 #[.agg #[.slice ra m rc, .int .i64 p, .int .i64 ((n : Nat) : Int), .slice fa F.length fc, .int .i64 p, .int .i64 x]] w fun e w' => (∃ va vc us', e = .returned (.agg #[.slice va (kerZ p n z).length vc, .int .i64 p, .int .i64 ((n : Nat) : Int)]) ∧ OwnG w' w.heap.size p (.slice va (kerZ p n z).length vc) us' (kerZ p n z)) ∧ Below w.heap.size w w' := by
  obtain ⟨i1, ji, jz0, jz1, jz2⟩ := info_parts Try.infoNums
  have HO := Lib.hid ho
  have HFI := Lib.hid hfi
  have HF := Lib.hid hF
  have HTB := Lib.hid ht
  have HEL := Lib.hid hel
  have hfl1 : F.length ≤ 1000 := by omega
  have HFB := Lib.hid (show ∀ k, k < F.length → nthN F k < n from fun k hk => echF_lt (p := p) (z := z) _ (by rw [← hF]; exact nthN_mem hk))
  clear ho hfi hF ht hel
  go_enter Try.func87, Try.ntmps87
  go_upto_region 2 with fail
  have hb1 := (((Below.refl w.heap.size w).alloc (Nat.le_refl _) (.cells #[.slice ra m rc, .int .i64 p, .int .i64 ((n : Nat) : Int), .slice fa F.length fc, .int .i64 p, .int .i64 x] 128)).alloc (by simp) (.cells #[.slice none 0 0, .int .i64 0, .int .i64 0] 102)).alloc (by simp; omega) (.cells #[.slice none 0 0, .int .i64 p, .int .i64 ((n : Nat) : Int)] 102)
  have hx0 : Boxes (((w.alloc (.cells #[.slice ra m rc, .int .i64 p, .int .i64 ((n : Nat) : Int), .slice fa F.length fc, .int .i64 p, .int .i64 x] 128)).alloc (.cells #[.slice none 0 0, .int .i64 0, .int .i64 0] 102)).alloc (.cells #[.slice none 0 0, .int .i64 p, .int .i64 ((n : Nat) : Int)] 102)) w.heap.size 128 #[.slice ra m rc, .int .i64 p, .int .i64 ((n : Nat) : Int), .slice fa F.length fc, .int .i64 p, .int .i64 x] := Boxes.step (Boxes.step (World.alloc_heap_new w _) (al_b _ _)) (al_b _ _)
  have hx1 : Boxes (((w.alloc (.cells #[.slice ra m rc, .int .i64 p, .int .i64 ((n : Nat) : Int), .slice fa F.length fc, .int .i64 p, .int .i64 x] 128)).alloc (.cells #[.slice none 0 0, .int .i64 0, .int .i64 0] 102)).alloc (.cells #[.slice none 0 0, .int .i64 p, .int .i64 ((n : Nat) : Int)] 102)) (w.heap.size + 1) 102 #[.slice none 0 0, .int .i64 0, .int .i64 0] := by
    have := Boxes.step (W := (w.alloc (.cells #[.slice ra m rc, .int .i64 p, .int .i64 ((n : Nat) : Int), .slice fa F.length fc, .int .i64 p, .int .i64 x] 128)).alloc (.cells #[.slice none 0 0, .int .i64 0, .int .i64 0] 102)) (World.alloc_heap_new (w.alloc (.cells #[.slice ra m rc, .int .i64 p, .int .i64 ((n : Nat) : Int), .slice fa F.length fc, .int .i64 p, .int .i64 x] 128)) (.cells #[.slice none 0 0, .int .i64 0, .int .i64 0] 102)) (al_b _ (.cells #[.slice none 0 0, .int .i64 p, .int .i64 ((n : Nat) : Int)] 102))
    simp only [World.size_alloc] at this
    exact this
  have hx2 : Boxes (((w.alloc (.cells #[.slice ra m rc, .int .i64 p, .int .i64 ((n : Nat) : Int), .slice fa F.length fc, .int .i64 p, .int .i64 x] 128)).alloc (.cells #[.slice none 0 0, .int .i64 0, .int .i64 0] 102)).alloc (.cells #[.slice none 0 0, .int .i64 p, .int .i64 ((n : Nat) : Int)] 102)) (w.heap.size + 2) 102 #[.slice none 0 0, .int .i64 p, .int .i64 ((n : Nat) : Int)] := by
    have : Boxes (((w.alloc (.cells #[.slice ra m rc, .int .i64 p, .int .i64 ((n : Nat) : Int), .slice fa F.length fc, .int .i64 p, .int .i64 x] 128)).alloc (.cells #[.slice none 0 0, .int .i64 0, .int .i64 0] 102)).alloc (.cells #[.slice none 0 0, .int .i64 p, .int .i64 ((n : Nat) : Int)] 102)) ((w.alloc (.cells #[.slice ra m rc, .int .i64 p, .int .i64 ((n : Nat) : Int), .slice fa F.length fc, .int .i64 p, .int .i64 x] 128)).alloc (.cells #[.slice none 0 0, .int .i64 0, .int .i64 0] 102)).heap.size 102 #[.slice none 0 0, .int .i64 p, .int .i64 ((n : Nat) : Int)] := World.alloc_heap_new _ _
    simp only [World.size_alloc] at this
    exact this
  generalize (((w.alloc (.cells #[.slice ra m rc, .int .i64 p, .int .i64 ((n : Nat) : Int), .slice fa F.length fc, .int .i64 p, .int .i64 x] 128)).alloc (.cells #[.slice none 0 0, .int .i64 0, .int .i64 0] 102)).alloc (.cells #[.slice none 0 0, .int .i64 p, .int .i64 ((n : Nat) : Int)] 102)) = w3 at *
  have HB1 := Lib.hid hb1
  have HX0 := Lib.hid hx0
  have HX1 := Lib.hid hx1
  have HX2 := Lib.hid hx2
  obtain ⟨a0, a1, a2, a3, a4, a5⟩ := hx0.c6
  have al := hx0.lt
  clear hb1 hx0 hx1 hx2
  go_wp2_with fail
  clear a0 a1 a2 a3 a4 a5 al
  go_loopw [4, 5, 6, 7, 18] (fun q4 q5 q6 q7 i wr => ∃ (k : Nat) (va : Option Addr) (vc : Nat) (us' : List Value), k ≤ n ∧ i = .int .i64 k ∧ Boxes wr w.heap.size 128 #[.slice ra m rc, .int .i64 p, .int .i64 ((n : Nat) : Int), .slice fa F.length fc, .int .i64 p, .int .i64 x] ∧ Boxes wr (w.heap.size + 1) 102 #[.slice none 0 0, .int .i64 0, .int .i64 0] ∧ Boxes wr (w.heap.size + 2) 102 #[.slice va (kerTo p n z k).length vc, .int .i64 p, .int .i64 ((n : Nat) : Int)] ∧ OwnG wr (w.heap.size + 3) p (.slice va (kerTo p n z k).length vc) us' (kerTo p n z k) ∧ Below w.heap.size w wr)
    (fun _ _ _ _ i _ => n - (intOf i).toNat)
  case atStart => exact ⟨0, none, 0, _, Nat.zero_le _, rfl, HX0.out, HX1.out, HX2.out, OwnG.nil _ _ _, HB1.out⟩
  case round =>
    obtain ⟨k, va, vc, us', hk, rfl, hx0, hx1, hx2, hog, hb⟩ := hrel
    have hklen := kerTo_len (p := p) (n := n) (z := z) k
    clear HX0 HX1 HX2 HB1
    have HX0 := Lib.hid hx0
    have HX1 := Lib.hid hx1
    have HX2 := Lib.hid hx2
    have HOG := Lib.hid hog
    have HBW := Lib.hid hb
    have hl0 := hx0.lt
    have hl2 := hx2.lt
    clear hog hb
    obtain ⟨wo, rfl⟩ : ∃ wo : World, wo = wr := ⟨_, rfl⟩
    by_cases hlt : k < n
    · have hk0 : (k : Int) < (n : Int) := by omega
      have HRA := Lib.hid (show RedAt wo w.heap.size base p m n ra rc us f fa fc F x from ⟨hx0, HO.out.step HBW.out, row_step HFI.out HBW.out⟩)
      obtain ⟨a0, a1, a2, a3, a4, a5⟩ := hx0.c6
      clear hx0 hx1 hx2
      by_cases hin : k ∈ F
      · have HT := Lib.hid (tell_true hin)
        have HSK := Lib.hid (ker_skip (p := p) (n := n) (z := z) (k := k) (by rw [← HF.out]; exact hin))
        clear hin
        go_wp2_with fail
        refine (containsI_any fa fc F k base wo HRA.out.firsts hfl1).mono ?_
        rintro e w' ⟨rfl, rfl⟩
        rw [HT.out]
        go_wp2_with fail
        go_roundw
        case rel => exact ⟨k + 1, va, vc, us', by omega, by go_num, HX0.out, HX1.out, by rw [HSK.out]; exact HX2.out, by rw [HSK.out]; exact HOG.out, HBW.out⟩
        case measure => simp [intOf]; omega
      have HT := Lib.hid (tell_false hin)
      have HNX := Lib.hid (ker_next (p := p) (n := n) (z := z) (k := k) (by rw [← HF.out]; exact hin))
      clear hin
      go_wp2_with fail
      refine (containsI_any fa fc F k base wo HRA.out.firsts hfl1).mono ?_
      rintro e w' ⟨rfl, rfl⟩
      rw [HT.out]
      clear a0 a1 a2 a3 a4 a5
      go_upto_region 6 with fail
      have MK := Lib.hid (show ∀ w' : World, Below wo.heap.size wo w' → w'.cell? ⟨w.heap.size, 1, none⟩ = some (.int .i64 p) ∧ w'.cell? ⟨w.heap.size, 2, none⟩ = some (.int .i64 ((n : Nat) : Int)) from fun w' hw => ⟨(HX0.out.step hw).c6.2.1, (HX0.out.step hw).c6.2.2.1⟩)
      go_region_held3 (fun w' => w'.cell? ⟨w.heap.size, 1, none⟩ = some (.int .i64 p) ∧ w'.cell? ⟨w.heap.size, 2, none⟩ = some (.int .i64 ((n : Nat) : Int))) (first | exact MK.out _ (drew_step _) | exact MK.out _ HB8.out | exact MK.out _ (HB8.out.alloc HB8.out.size _) | exact MK.out _ HB9.out | fail) (first
        | (go_at_call 95; refine (number_any p 0 _).mono ?_; rintro e w8 ⟨rfl, hb8⟩; have HB8 := Lib.hid (show Below wo.heap.size wo w8 from (drew_step wo).trans hb8); have HN8 := Lib.hid (show Nums (w8.alloc (.cells #[.int .i64 p, .int .i64 0] 126)) (some ⟨w8.heap.size, 0, none⟩) p [0] from nums_new w8 p 0); clear hb8)
        | (go_at_call 135; refine (repeat_any p 0 w8.heap.size 1 n _ HN8.out hn).mono ?_; rintro e w9 ⟨v9, rfl, ho9, hb9⟩; have HB9 := Lib.hid (show Below wo.heap.size wo w9 from (HB8.out.alloc HB8.out.size (.cells #[.int .i64 p, .int .i64 0] 126)).trans (hb9.mono (by have := HB8.out.size; simp; omega))); have HO9 := Lib.hid (show OwnN w9 wo.heap.size p v9 (List.replicate n 0) from ho9.mono (by have := HB8.out.size; simp; omega)); obtain ⟨ga, gc, hr9⟩ := rowForm ho9; rw [List.length_replicate] at hr9; subst hr9; clear ho9 hb9))
      all_goals (
        obtain ⟨g, gcap, hge, hgb, hgl⟩ := World.ownsRow.form (show w9.ownsRow wo.heap.size 126 2 (.slice ga n gc) n (numCells p (List.replicate n 0)) from by have h := HO9.out; unfold OwnN at h; rw [List.length_replicate] at h; exact h) (by omega)
        cases hge
        have HR9 := Lib.hid (show OwnN w9 wo.heap.size p (.slice (some ⟨g, 0, none⟩) n gc) (rowOf n (fun _ => 0)) from by rw [show rowOf n (fun _ => (0 : Int)) = List.replicate n 0 from by unfold rowOf; rw [List.map_const', List.length_range]]; exact HO9.out)
        have a1 := (HX0.out.step HB9.out).c6.2.1
        have al := (HX0.out.step HB9.out).lt
        go_wp2_with fail
        refine (number_any p 1 _).mono ?_
        rintro e w10 ⟨rfl, hb10⟩
        have HB10 := Lib.hid (HB9.out.trans (hb10.mono HB9.out.size))
        have hr10 := HR9.out.step hb10
        have d0 := (OwnN.cellsAt hr10 hlt).1
        have d1 := (OwnN.cellsAt hr10 hlt).2
        have f0 := OwnN.fzAt hr10 (k * 2)
        have f1 := OwnN.fzAt hr10 (k * 2 + 1)
        have gl := (OwnN.glt hr10).2
        have HR11 := Lib.hid (show OwnN ((w10.setCell ⟨g, k * 2, none⟩ (.int .i64 p)).setCell ⟨g, k * 2 + 1, none⟩ (.int .i64 1)) wo.heap.size p (.slice (some ⟨g, 0, none⟩) n gc) (rowOf n (solAt (oneAt k) F (kerG p n z k) 0)) from by
          have h := OwnN.put hr10 k 1
          rw [rowOf_set] at h
          refine (show rowOf n (fun j => if j = k then 1 else (0 : Int)) = rowOf n (solAt (oneAt k) F (kerG p n z k) 0) from rowOf_ext fun j _ => rfl) ▸ h)
        have HB11 := Lib.hid ((HB10.out.setCell (p := ⟨g, k * 2, none⟩) hgb (.int .i64 p)).setCell (p := ⟨g, k * 2 + 1, none⟩) hgb (.int .i64 1))
        clear hb10 hr10 a1 al
        go_upto_region 8 with fail
        clear d0 d1 f0 f1 gl
        generalize (w10.setCell ⟨g, k * 2, none⟩ (.int .i64 p)).setCell ⟨g, k * 2 + 1, none⟩ (.int .i64 1) = w11 at *
        obtain ⟨b0, b1, b2, b3, b4, b5⟩ := (HX0.out.step HB11.out).c6
        have bl := (HX0.out.step HB11.out).lt
        go_wp2_with fail
        clear b0 b1 b2 b3 b4 b5 bl
        go_loopw [6, 7, 44] (fun q6 q7 i wi => ∃ j : Nat, j ≤ F.length ∧ i = .int .i64 j ∧ OwnN wi wo.heap.size p (.slice (some ⟨g, 0, none⟩) n gc) (rowOf n (solAt (oneAt k) F (kerG p n z k) j)) ∧ Below wo.heap.size wo wi)
          (fun _ _ i _ => F.length - (intOf i).toNat)
        case atStart => exact ⟨0, Nat.zero_le _, rfl, HR11.out, HB11.out⟩
        case round =>
          obtain ⟨j, hj, rfl, hrow, hbi⟩ := hrel
          have HRO := Lib.hid hrow
          have HBI := Lib.hid hbi
          have hsz := hbi.size
          clear hrow hbi HR11 HB11
          by_cases hltj : j < F.length
          · have hj0 : (j : Int) < (F.length : Int) := by omega
            have hra := HRA.out.step HBI.out
            obtain ⟨fb, fcap, hfe, -, hfl⟩ := hra.firsts.form (by omega)
            cases hfe
            have hfk := World.ownsRow.cellAt hra.firsts j (by omega)
            rw [cols_at hltj] at hfk
            have hrb := HFB.out j hltj
            have HKS := Lib.hid (ker_set (oneAt k) F (kerG p n z k) n j)
            obtain ⟨r, hr⟩ : ∃ r, nthN F j = r := ⟨_, rfl⟩
            rw [hr] at hfk hrb HKS
            obtain ⟨b, g2, cap2, hea, -, -, hbl, hgl2, hcr, hcc⟩ := hra.row (r := j) (by omega) (by omega)
            cases hea
            obtain ⟨e0, e1⟩ := hcc k hlt
            obtain ⟨y, hy⟩ : ∃ y, f j k = y := ⟨_, rfl⟩
            have hye := HEL.out j (by omega) k hlt
            rw [hy] at e1 hye
            have HKG := Lib.hid (show kerG p n z k j = (p - y) % p from by
              unfold kerG
              rw [← HTB.out, tab_at _ _ _ hltj hlt, hy])
            rw [HKG.out] at HKS
            obtain ⟨b0, b1, b2, b3, b4, b5⟩ := hra.box.c6
            have bl := hra.box.lt
            have hjm : (j : Int) < (m : Int) := by omega
            have hrn : (r : Int) < (n : Int) := by omega
            have HYE := Lib.hid hye
            clear hcc hr hra hy hye
            go_wp2_with fail
            refine (negative_any p y _ hp0 hp1 HYE.out).mono ?_
            rintro e w12 ⟨rfl, hb12⟩
            have hr12 := HRO.out.step hb12
            have HB12 := Lib.hid (HBI.out.trans (hb12.mono hsz))
            obtain ⟨t, ht⟩ : ∃ t, (p - y) % p = t := ⟨_, rfl⟩
            rw [ht] at HKS ⊢
            clear ht HKG
            have d0 := (OwnN.cellsAt hr12 hrb).1
            have d1 := (OwnN.cellsAt hr12 hrb).2
            have f0 := OwnN.fzAt hr12 (r * 2)
            have f1 := OwnN.fzAt hr12 (r * 2 + 1)
            have gl := (OwnN.glt hr12).2
            have HRN := Lib.hid (show OwnN ((w12.setCell ⟨g, r * 2, none⟩ (.int .i64 p)).setCell ⟨g, r * 2 + 1, none⟩ (.int .i64 t)) wo.heap.size p (.slice (some ⟨g, 0, none⟩) n gc) (rowOf n (solAt (oneAt k) F (kerG p n z k) (j + 1))) from by
              have h := OwnN.put hr12 r t
              rw [HKS.out] at h
              exact h)
            have HBN := Lib.hid ((HB12.out.setCell (p := ⟨g, r * 2, none⟩) hgb (.int .i64 p)).setCell (p := ⟨g, r * 2 + 1, none⟩) hgb (.int .i64 t))
            clear hr12 hb12 b0 b1 b2 b3 b4 b5 bl hfk e0 e1 hcr
            go_wp2_with fail
            go_roundw
            case rel => exact ⟨j + 1, by omega, by go_num, HRN.out, HBN.out⟩
            case measure => simp [intOf]; omega
          · have HE := Lib.hid (show j = F.length by omega)
            have hj0 : ¬ (j : Int) < (F.length : Int) := by omega
            have HX2I := Lib.hid (HX2.out.step HBI.out)
            have HX1I := Lib.hid (HX1.out.step HBI.out)
            have HX0I := Lib.hid (HX0.out.step HBI.out)
            have HKR := Lib.hid (show OwnN wr wo.heap.size p (.slice (some ⟨g, 0, none⟩) n gc) (kerRow p n z k) from by
              have h := HRO.out
              rw [HE.out] at h
              unfold kerRow
              rw [← HF.out]
              exact h)
            obtain ⟨mk, hmk⟩ : ∃ mk, (kerTo p n z k).length = mk := ⟨_, rfl⟩
            have hmk2 : mk ≤ 1000 := by omega
            have HRS := Lib.hid (HOG.out.rows.snoc HBI.out HKR.out (show w.heap.size + 3 ≤ wo.heap.size from hl2))
            have HOR := Lib.hid (show wr.ownsRow (w.heap.size + 3) 173 1 (.slice va mk vc) mk us' from by have h := row_step HOG.out.row HBI.out; rw [hmk] at h; exact h)
            have HNL := Lib.hid (show (kerTo p n z (k + 1)).length = mk + 1 by rw [HNX.out, List.length_append, hmk]; rfl)
            rw [hmk] at HX2I
            have c0 := HX2I.out.m0
            have cf := HX2I.out.frozen 0
            have cl := HX2I.out.lt
            clear hmk hklen
            go_wp2_with (at_builtin; refine wpList_append_own _ rfl _ _ 99 rfl (w.heap.size + 3) 173 i1 (.slice none 0 0) 1 24 Try.underlying99 ji jz0 jz1 jz2 rfl (by decide) _ _ us' rfl (World.ownsRow.alloc HOR.out _) ⟨wr.heap.size, 0, none⟩ 1 1 [(.slice (some ⟨g, 0, none⟩) n gc)] rfl rfl (cell_one_new _ _ _) (by simp [Value.oneCell']) (by unfold maxLen; omega) (by omega) (by simp; omega) ?_; intro v' w7 hown7 hgrow7 _; obtain ⟨va', vc', rfl⟩ := rowForm hown7; have hxx := (HX2I.out.step (al_b wr (.cells #[(.slice (some ⟨g, 0, none⟩) n gc)] 173))).grown hgrow7 (row_ge HOR.out (Nat.lt_succ_self _)); have g0 := hxx.m0; have g1 := hxx.frozen 0)
            have hz7 : w.heap.size + 2 < w7.heap.size := hxx.lt
            have HX7 := Lib.hid hxx
            have HY7 := Lib.hid ((HX1I.out.step (al_b wr (.cells #[(.slice (some ⟨g, 0, none⟩) n gc)] 173))).grown hgrow7 (row_ge HOR.out (by omega)))
            have HZ7 := Lib.hid ((HX0I.out.step (al_b wr (.cells #[(.slice (some ⟨g, 0, none⟩) n gc)] 173))).grown hgrow7 (row_ge HOR.out (by omega)))
            have HO7 := Lib.hid hown7
            have HG7 := Lib.hid hgrow7
            have hszo : w.heap.size + 3 ≤ wr.heap.size := by omega
            clear hxx hown7 hgrow7 c0 cf cl
            go_wp2_with fail
            go_roundw
            case rel =>
              refine ⟨k + 1, va', vc', us' ++ [(.slice (some ⟨g, 0, none⟩) n gc)], by omega, by go_num, HZ7.out.other3 (by omega), HY7.out.other3 (by omega), by rw [HNL.out]; exact HX7.out.set3 _, ⟨?_, ?_⟩, ?_⟩
              · rw [HNL.out]
                exact row_set (u := .slice va' (mk + 1) vc') (o := 0) HO7.out (show w.heap.size + 2 < w.heap.size + 3 by omega)
              · rw [HNX.out]
                refine (HRS.out.map (W' := w7) fun u zs ho => row_other (World.ownsRow.alloc ho _) (World.ownsRow.alloc HOR.out _) HG7.out (by decide)).map fun u zs ho => row_set ho (by omega) _
              · refine Below.setCell ?_ (by show w.heap.size ≤ w.heap.size + 2; omega) _
                exact ((HBW.out.trans (HBI.out.mono (by omega))).alloc (by omega) _).grown HG7.out (by simp; omega) (fun q hq => by have := row_lt HOR.out hq; omega)
            case measure => simp [intOf]; omega)
    · have HE := Lib.hid (show k = n by omega)
      have hk0 : ¬ (k : Int) < (n : Int) := by omega
      have HKZ := Lib.hid (show kerTo p n z k = kerZ p n z by unfold kerZ; rw [HE.out])
      have e1 := hx1.m0
      have e2 := hx1.m1
      have e3 := hx1.m2
      have e4 := hx1.frozen 0
      have e5 := hx1.frozen 1
      have e6 := hx1.frozen 2
      have el := hx1.lt
      have c0 := hx2.m0
      have c1 := hx2.m1
      have c2 := hx2.m2
      clear hx0 hx1 hx2
      go_wp2_with fail
      refine bodyPost_ret (v := .agg #[.slice va (kerTo p n z k).length vc, .int .i64 p, .int .i64 ((n : Nat) : Int)]) (by simp [results, Try.results87, go_sem, e1, e2, e3]) rfl ?_
      have h8 := HOG.out
      rw [HKZ.out] at h8 ⊢
      refine ⟨⟨va, vc, rfl, us', ?_⟩, ?_⟩
      · exact (((h8.setCell2 (p := ⟨w.heap.size + 1, 0, none⟩) (by show w.heap.size + 1 < w.heap.size + 3; omega) _).setCell2 (p := ⟨w.heap.size + 1, 1, none⟩) (by show w.heap.size + 1 < w.heap.size + 3; omega) _).setCell2 (p := ⟨w.heap.size + 1, 2, none⟩) (by show w.heap.size + 1 < w.heap.size + 3; omega) _).mono (Nat.le_add_right _ 3)
      · exact ((HBW.out.setCell (p := ⟨w.heap.size + 1, 0, none⟩) (by show w.heap.size ≤ w.heap.size + 1; omega) _).setCell (p := ⟨w.heap.size + 1, 1, none⟩) (by show w.heap.size ≤ w.heap.size + 1; omega) _).setCell (p := ⟨w.heap.size + 1, 2, none⟩) (by show w.heap.size ≤ w.heap.size + 1; omega) _
end Go.Proofs.Ytnebkhelobpkpaa

namespace Go.Proofs.Ytnebkhelobpkpaa
open Go.RowKit Go.Deep Go.Joins
set_option linter.unusedVariables false

theorem hasIn_colI (F : List Nat) (k : Nat) : HasIn (colI F) (k : Int) ↔ k ∈ F := by
  constructor
  · rintro ⟨i, hi, h⟩
    rw [colI_len] at hi
    rw [colI_nth hi] at h
    have : nthN F i = k := by omega
    rw [← this]
    exact nthN_mem hi
  · intro h
    obtain ⟨i, hi, rfl⟩ := List.getElem_of_mem h
    exact ⟨i, by rw [colI_len]; exact hi, by rw [colI_nth hi, nthN_lt hi]⟩

theorem ech_elems {p : Int} {n : Nat} {z : List (List Int)} (hg : GoodM p n z) (i : Nat) (hi : i < (echF p n z).length) (j : Nat) (hj : j < n) : Elem p (nth (nthL (echZ p n z) i) j) := by
  unfold echZ
  rw [tab_at _ _ _ hi hj]
  by_cases hx : ∃ x : (Nat → Nat → Int) × List Nat, Steps p n z.length (fn z) n x.1 x.2
  · obtain ⟨x, hx⟩ := hx
    have h := ech_elem hg hx
    exact h.2.2.2 i (by omega) j hj
  · exfalso
    unfold echF redOf at hi
    rw [dif_neg hx] at hi
    simp at hi

set_option maxRecDepth 100000 in
set_option maxHeartbeats 8000000 in
theorem l03Kernel_any (q0 n ca : Nat) (p : Int) (a : Option Addr) (z : List (List Int)) (w : World) (hbx : Boxes w q0 46 #[.int .i64 p, .int .i64 ((n : Nat) : Int), .slice a z.length ca]) (hr : Rows2 w a z) (hg : GoodM p n z) :
    Calls Try.prog 82 #[.pointer (some ⟨q0, 0, none⟩)] w fun e w' => (∃ va vc us, e = .returned (.agg #[.int .i64 p, .int .i64 ((n : Nat) : Int), .slice va (kerZ p n z).length vc]) ∧ Own w' w.heap.size (.slice va (kerZ p n z).length vc) us (kerZ p n z)) ∧ Below w.heap.size w w' := by
  have hn1 := hg.hn
  have hzm := hg.hm
  have hp0 := hg.prm.1
  have hp1 := hg.prm.2.1
  have hpz : p ≠ 0 := by omega
  have HGD := Lib.hid hg
  have HQ := Lib.hid hbx
  have HR := Lib.hid hr
  have hq0 := hbx.lt
  obtain ⟨F, hF⟩ : ∃ F, echF p n z = F := ⟨_, rfl⟩
  have HF := Lib.hid hF
  clear hr hbx hg hF
  go_enter Try.func82, Try.ntmps82
  go_wp2_with fail
  have hb1 := al_b w (.cells #[.int .i64 0, .int .i64 0, .slice none 0 0] 46)
  have HY := Lib.hid (show Boxes (w.alloc (.cells #[.int .i64 0, .int .i64 0, .slice none 0 0] 46)) w.heap.size 46 #[.int .i64 0, .int .i64 0, .slice none 0 0] from World.alloc_heap_new _ _)
  have HQ1 := Lib.hid (HQ.out.step hb1)
  have HR1 := Lib.hid (HR.out.below hb1 (Nat.le_refl _))
  have HB1 := Lib.hid hb1
  have hs1 : (w.alloc (.cells #[.int .i64 0, .int .i64 0, .slice none 0 0] 46)).heap.size = w.heap.size + 1 := by simp
  generalize w.alloc (.cells #[.int .i64 0, .int .i64 0, .slice none 0 0] 46) = w1 at *
  clear hb1 HQ HR
  refine (l03Echelon_any q0 n ca p a z w1 HQ1.out HR1.out HGD.out).mono ?_
  rintro e w2 ⟨⟨ea, ec, fa, fc, us2, f, rfl, hom, hof, hle, htab⟩, hb2⟩
  rw [HF.out] at hof hle htab ⊢
  have HQ2 := Lib.hid (HQ1.out.step hb2)
  have HY2 := Lib.hid (HY.out.step hb2)
  have HB2 := Lib.hid (HB1.out.trans (hb2.mono (by omega)))
  have HOM := Lib.hid hom
  have HOF := Lib.hid hof
  have HTB := Lib.hid htab
  have hs2 : w.heap.size + 1 ≤ w2.heap.size := by have := hb2.size; omega
  have HFB := Lib.hid (show ∀ k, k < F.length → nthN F k < n from fun k hk => echF_lt (p := p) (z := z) _ (by rw [HF.out]; exact nthN_mem hk))
  have HEL := Lib.hid (show ∀ i, i < F.length → ∀ j, j < n → Elem p (f i j) from fun i hi j hj => by
    have h := ech_elems HGD.out i (by rw [HF.out]; exact hi) j hj
    rw [← HTB.out, tab_at _ _ _ hi hj] at h
    exact h)
  clear hom hof htab hb2 HQ1 HR1 HY HB1
  go_upto_region 2 with fail
  have hb3 := al_b w2 (.cells #[.int .i64 p, .int .i64 ((n : Nat) : Int), .slice ea F.length ec] 46)
  have HE3 := Lib.hid (show Boxes (w2.alloc (.cells #[.int .i64 p, .int .i64 ((n : Nat) : Int), .slice ea F.length ec] 46)) w2.heap.size 46 #[.int .i64 p, .int .i64 ((n : Nat) : Int), .slice ea F.length ec] from World.alloc_heap_new w2 _)
  have HQ3 := Lib.hid (HQ2.out.step hb3)
  have HY3 := Lib.hid (HY2.out.step hb3)
  have HB3 := Lib.hid (HB2.out.trans (hb3.mono (by omega)))
  have HOM3 := Lib.hid (HOM.out.step hb3)
  have HOF3 := Lib.hid (HOF.out.step hb3)
  have hs3 : (w2.alloc (.cells #[.int .i64 p, .int .i64 ((n : Nat) : Int), .slice ea F.length ec] 46)).heap.size = w2.heap.size + 1 := by simp
  generalize w2.alloc (.cells #[.int .i64 p, .int .i64 ((n : Nat) : Int), .slice ea F.length ec] 46) = w3 at *
  clear hb3 HQ2 HY2 HB2 HOM HOF
  have x0 := HQ3.out.m0
  have x1 := HQ3.out.m1
  have hq3 := HQ3.out.lt
  have hq2 : q0 < w2.heap.size := by omega
  go_region
  have hb4 := ((Below.refl w3.heap.size w3).alloc (Nat.le_refl _) (.cells #[.int .i64 p, .int .i64 (n : Int), .slice none 0 0] 46)).drew
  have hbo : Boxes (w3.alloc (.cells #[.int .i64 p, .int .i64 (n : Int), .slice none 0 0] 46)).drew (w2.heap.size + 1) 46 #[.int .i64 p, .int .i64 (n : Int), .slice none 0 0] := by
    have : Boxes (w3.alloc (.cells #[.int .i64 p, .int .i64 (n : Int), .slice none 0 0] 46)) w3.heap.size 46 #[.int .i64 p, .int .i64 (n : Int), .slice none 0 0] := World.alloc_heap_new _ _
    rw [hs3] at this
    exact this.step (drew_step _)
  generalize (w3.alloc (.cells #[.int .i64 p, .int .i64 (n : Int), .slice none 0 0] 46)).drew = w4 at *
  have HO := Lib.hid hbo
  have HE4 := Lib.hid (HE3.out.step hb4)
  have HQ4 := Lib.hid (HQ3.out.step hb4)
  have HY4 := Lib.hid (HY3.out.step hb4)
  have HB4 := Lib.hid (HB3.out.trans (hb4.mono (by omega)))
  have HOM4 := Lib.hid (HOM3.out.step hb4)
  have HOF4 := Lib.hid (Ints_of_own (HOF3.out.step hb4))
  have hs4 : w2.heap.size + 2 ≤ w4.heap.size := hbo.lt
  generalize hoo : w2.heap.size + 1 = oo at *
  have HOO := Lib.hid hoo
  have HOMB := Lib.hid (fun (W : World) (hW : Below oo w4 W) => HOM3.out.step (hb4.trans (hW.mono (by omega))))
  have HFIB := Lib.hid (fun (W : World) (hW : Below oo w4 W) => (Ints_of_own HOF3.out).below (hb4.trans (hW.mono (by omega))) (Nat.le_refl _))
  have HLE := Lib.hid hle
  have hfl1 : F.length ≤ 1000 := by omega
  clear hb4 hbo x0 x1 hq3 HE3 HQ3 HY3 HB3 HOM3 HOF3
  obtain ⟨i0, hi, hz0, hz1, hz2⟩ := info_parts Try.infoInt64
  obtain ⟨i1, ji, jz0, jz1, jz2⟩ := info_parts Try.infoInt64S
  have hql : q0 < oo := by omega
  have hmk := run_make_row' (P := Try.prog) 35 2 (.int .i64 0) 8 Try.underlying35 Try.infoInt64 rfl .i64 .i64 n (by omega) (by omega)
  have HMK := Lib.hid hmk
  clear hmk
  go_wp2_with fail
  go_loopw [6, 7, 8] (fun i q7 q8 wr => ∃ (k : Nat) (va : Option Addr) (vc : Nat) (us : List Value), k ≤ n ∧ i = .int .i64 k ∧ Boxes wr oo 46 #[.int .i64 p, .int .i64 (n : Int), .slice va (kerTo p n z k).length vc] ∧ Own wr (oo + 1) (.slice va (kerTo p n z k).length vc) us (kerTo p n z k) ∧ Below oo w4 wr)
    (fun i _ _ _ => n - (intOf i).toNat)
  case atStart => exact ⟨0, none, 0, [], Nat.zero_le _, rfl, HO.out, Own.nil3 _ _, Below.refl _ _⟩
  case round =>
    obtain ⟨k, va, vc, us, hk, rfl, hx, hown, hb⟩ := hrel
    have HXQ := Lib.hid hx
    have HOQ := Lib.hid hown
    have HBL := Lib.hid hb
    have hooq1 : oo + 1 ≤ wr.heap.size := hx.lt
    have b0 := (hb.cell (p := ⟨q0, 0, none⟩) (show q0 < oo by omega)).trans HQ4.out.m0
    have b1 := (hb.cell (p := ⟨q0, 1, none⟩) (show q0 < oo by omega)).trans HQ4.out.m1
    have b2 := (hb.cell (p := ⟨w2.heap.size, 2, none⟩) (show w2.heap.size < oo by omega)).trans HE4.out.m2
    have hqr : q0 < wr.heap.size := by omega
    have hwr : w2.heap.size < wr.heap.size := by omega
    have HBW := Lib.hid (show Below w.heap.size w wr from HB4.out.trans (hb.mono (by omega)))
    have HB4R := Lib.hid hb
    have hklen := kerTo_len (p := p) (n := n) (z := z) k
    clear hx hown hb
    obtain ⟨wo, rfl⟩ : ∃ wo : World, wo = wr := ⟨_, rfl⟩
    by_cases hlt : k < n
    · have hi0 : (k : Int) < (n : Int) := by omega
      have HFI := Lib.hid (HFIB.out wo HBL.out)
      by_cases hin : k ∈ F
      · have HT := Lib.hid (tell_true ((hasIn_colI F k).2 hin))
        have HSK := Lib.hid (ker_skip (p := p) (n := n) (z := z) (k := k) (by rw [HF.out]; exact hin))
        clear hin
        go_wp2_with fail
        have hcall := l00Has_any fa (colI F) fc (k : Int) wo HFI.out (by rw [colI_len]; have := HLE.out; omega)
        rw [colI_len] at hcall
        refine hcall.mono ?_
        clear hcall
        rintro e w' ⟨rfl, rfl⟩
        rw [HT.out]
        go_wp2_with fail
        go_roundw
        case rel => exact ⟨k + 1, va, vc, us, by omega, by go_num, by rw [HSK.out]; exact HXQ.out, by rw [HSK.out]; exact HOQ.out, HB4R.out⟩
        case measure => simp [intOf]; omega
      have HT := Lib.hid (tell_false (fun q => hin ((hasIn_colI F k).1 q)))
      have HNX := Lib.hid (ker_next (p := p) (n := n) (z := z) (k := k) (by rw [HF.out]; exact hin))
      clear hin
      go_wp2_with fail
      have hcall := l00Has_any fa (colI F) fc (k : Int) wo HFI.out (by rw [colI_len]; have := HLE.out; omega)
      rw [colI_len] at hcall
      refine hcall.mono ?_
      clear hcall
      rintro e w' ⟨rfl, rfl⟩
      rw [HT.out]
      have hmk := HMK.out
      go_upto_region 8 with fail
      clear hmk
      have hr0 := World.rowIs_made wo (.int .i64 0) n 2
      have hB0 := (Below.refl wo.heap.size wo).alloc (Nat.le_refl _) (.cells (madeCells #[.int .i64 0] n) 2)
      have hrc := hr0.cell hlt
      have hfr := hr0.frozen k
      have hrl := hr0.lt
      have HR0 := Lib.hid ((hr0.set k (.int .i64 1)).congr (g := fun q => .int .i64 (solAt (oneAt k) F (kerG p n z k) 0 q)) (fun q _ => by
        show _ = Value.int .i64 (oneAt k q)
        unfold oneAt
        by_cases e : q = k
        · subst e; simp
        · simp [e]))
      have HB0 := Lib.hid (hB0.setCell (p := ⟨wo.heap.size, k, none⟩) (Nat.le_refl _) (.int .i64 1))
      clear hr0 hB0
      generalize wo.alloc (.cells (madeCells #[.int .i64 0] n) 2) = wm at *
      go_wp2_with fail
      generalize wm.setCell ⟨wo.heap.size, k, none⟩ (.int .i64 1) = w5 at *
      clear hrc hfr hrl
      go_loopw [8] (fun i wi => ∃ j : Nat, j ≤ F.length ∧ i = .int .i64 j ∧ wi.rowIs wo.heap.size 2 n (fun q => .int .i64 (solAt (oneAt k) F (kerG p n z k) j q)) ∧ Below wo.heap.size wo wi)
        (fun i _ => F.length - (intOf i).toNat)
      case atStart => exact ⟨0, Nat.zero_le _, rfl, HR0.out, HB0.out⟩
      case round =>
        obtain ⟨j, hj, rfl, hrow, hbi⟩ := hrel
        have HRO := Lib.hid hrow
        have HBI := Lib.hid hbi
        have hsz := hbi.size
        have d0 := (hbi.cell (p := ⟨q0, 0, none⟩) hqr).trans b0
        have d1 := (hbi.cell (p := ⟨q0, 1, none⟩) hqr).trans b1
        have d2 := (hbi.cell (p := ⟨w2.heap.size, 2, none⟩) hwr).trans b2
        have hqi : q0 < wr.heap.size := by omega
        have hwi : w2.heap.size < wr.heap.size := by omega
        clear hrow hbi HR0 HB0
        by_cases hltj : j < F.length
        · have hj0 : (j : Int) < (F.length : Int) := by omega
          rcases HFI.out.below HBI.out (Nat.le_refl _) with h9 | ⟨fb, fo, rfl, hfc⟩
          · have := congrArg List.length h9
            rw [colI_len] at this
            exact absurd hltj (by rw [this]; simp)
          have hfk := hfc j (by rw [colI_len]; exact hltj)
          rw [colI_nth hltj] at hfk
          have hrb := HFB.out j hltj
          have HRE := Lib.hid (show ∀ q : Nat, solAt (oneAt k) F (kerG p n z k) (j + 1) q = if q = nthN F j then kerG p n z k j else solAt (oneAt k) F (kerG p n z k) j q from fun q => rfl)
          obtain ⟨r, hr⟩ : ∃ r, nthN F j = r := ⟨_, rfl⟩
          rw [hr] at hfk hrb HRE
          clear hfc hr
          have e2 : (r : Int) < (n : Int) := by omega
          obtain ⟨b, g, cap, hea, -, -, hbl, hcr, -, hoi, -⟩ := (HOMB.out wr (HB4R.out.trans (HBI.out.mono (by omega)))).at (r := j) (by have := HLE.out; omega) (by omega)
          cases hea
          have d := hoi.at (j := k) hlt
          have dl := hoi.gl.2
          obtain ⟨y, hy⟩ : ∃ y, f j k = y := ⟨_, rfl⟩
          have hye := HEL.out j hltj k hlt
          rw [hy] at d hye
          obtain ⟨t, ht⟩ : ∃ t, p - y = t := ⟨_, rfl⟩
          have HKG := Lib.hid (show kerG p n z k j = t % p from by
            unfold kerG
            rw [← HTB.out, tab_at _ _ _ hltj hlt, hy, ht])
          have hw1 : IntKind.i64.wrap (p - y) = t := by rw [IntWalk.i64_in _ (by have := hye.1; have := hye.2; omega)]; exact ht
          have ht0 : 0 ≤ t := by have := hye.2; omega
          have ht1 : t ≤ 31 := by have := hye.1; omega
          have hy0 := hye.1
          have hy1 := hye.2
          have hjz : (j : Int) < (z.length : Int) := by have := HLE.out; omega
          have hrc := HRO.out.cell hrb
          have hfr := HRO.out.frozen r
          have hrl := HRO.out.lt
          have HRN := Lib.hid (fun (W : World) (h : W.rowIs wo.heap.size 2 n (fun q => .int .i64 (solAt (oneAt k) F (kerG p n z k) j q))) => (h.set r (.int .i64 (t % p))).congr (g := fun q => .int .i64 (solAt (oneAt k) F (kerG p n z k) (j + 1) q)) (fun q _ => by
            simp only [HRE.out, HKG.out]
            by_cases hq : q = r
            · subst hq; simp
            · simp [hq]))
          clear hoi HRE hye hy ht
          go_wp2_with fail
          go_region
          all_goals (
            go_wp2_with fail
            go_roundw
            case rel => exact ⟨j + 1, by omega, by go_num, by first | exact HRN.out _ HRO.out | exact HRN.out _ (rowIs_below HRO.out (drew_step _) HRO.out.lt) | exact rowIs_below (HRN.out _ HRO.out) (drew_step _) (HRN.out _ HRO.out).lt, by first | exact HBI.out.setCell (p := ⟨wo.heap.size, r, none⟩) (Nat.le_refl _) _ | exact (HBI.out.setCell (p := ⟨wo.heap.size, r, none⟩) (Nat.le_refl _) _).drew | exact (HBI.out.drew).setCell (p := ⟨wo.heap.size, r, none⟩) (Nat.le_refl _) _⟩
            case measure => simp [intOf]; omega)
        · have HE := Lib.hid (show j = F.length by omega)
          have hx1 := HXQ.out.step HBI.out
          have e2 := hx1.m2
          have f2 := hx1.frozen 2
          have hl1 := hx1.lt
          have hx1w : oo < wr.heap.size + 1 := by omega
          have HX1 := Lib.hid hx1
          have HOI2 := Lib.hid (show OwnI wr wo.heap.size (.slice (some ⟨wo.heap.size, 0, none⟩) n n) (kerRow p n z k) by
            have h1 := HRO.out
            rw [HE.out] at h1
            have h2 := own_of_row (zs := kerRow p n z k) (by rw [kerRow_len]; exact h1.congr (fun i hi => by unfold kerRow; rw [HF.out, rowOf_at _ _ hi])) (by rw [kerRow_len]; unfold maxLen; omega)
            rw [kerRow_len] at h2
            exact h2)
          have HRN := Lib.hid (HOQ.out.rows.snoc HBI.out HOI2.out hooq1)
          have HOG := Lib.hid (row_step HOQ.out.row HBI.out)
          obtain ⟨m, hm⟩ : ∃ m, (kerTo p n z k).length = m := ⟨_, rfl⟩
          have HM := Lib.hid hm
          rw [hm] at hklen HOG HX1 e2
          have HNL := Lib.hid (show (kerTo p n z (k + 1)).length = m + 1 by rw [HNX.out, List.length_append, hm]; rfl)
          clear hx1 hm HRO d0 d1 d2
          go_wp2_with (at_builtin; refine wpList_append_own _ rfl _ _ 36 rfl (oo + 1) 35 i1 (.slice none 0 0) 1 24 Try.underlying36 ji jz0 jz1 jz2 rfl (by decide) _ _ us rfl (World.ownsRow.alloc HOG.out _) ⟨wr.heap.size, 0, none⟩ 1 1 [(.slice (some ⟨wo.heap.size, 0, none⟩) n n)] rfl rfl (cell_one_new _ _ _) (by simp [Value.oneCell']) (by unfold maxLen; omega) (by omega) (by simp; omega) ?_; intro v' w7 hown7 hgrow7 _; obtain ⟨va', vc', rfl⟩ := rowForm hown7; have hxx := (HX1.out.step ((Below.refl _ _).alloc (Nat.le_refl _) (.cells #[(.slice (some ⟨wo.heap.size, 0, none⟩) n n)] 35))).grown hgrow7 (row_ge HOG.out (Nat.lt_succ_self _)); have g2 := hxx.m2; have gf := hxx.frozen 2)
          have hz7 : oo < w7.heap.size := hxx.lt
          have HX7 := Lib.hid hxx
          have HO7 := Lib.hid hown7
          have HG7 := Lib.hid hgrow7
          clear hxx hown7 hgrow7
          go_wp2_with fail
          go_roundw
          case rel =>
            refine ⟨k + 1, va', vc', us ++ [(.slice (some ⟨wo.heap.size, 0, none⟩) n n)], by omega, by go_num, by rw [HNL.out]; exact HX7.out.set3d _, ⟨?_, ?_⟩, ?_⟩
            · rw [HNL.out]
              exact row_set (u := .slice va' (m + 1) vc') (o := 2) HO7.out (Nat.lt_succ_self oo)
            · rw [HNX.out]
              refine (HRN.out.map (W' := w7) fun u zs ho => row_other (World.ownsRow.alloc ho _) (World.ownsRow.alloc HOG.out _) HG7.out (by decide)).map fun u zs ho => row_set ho (Nat.lt_succ_self oo) _
            · refine Below.setCell (p := ⟨oo, 2, none⟩) ?_ (Nat.le_refl oo) _
              exact ((HB4R.out.trans (HBI.out.mono (by omega))).alloc (by omega) _).grown HG7.out (by simp; omega) (fun q hq => by have := row_lt HOG.out hq; omega)
          case measure => simp [intOf]; omega
    · have HE := Lib.hid (show k = n by omega)
      have ho := HOQ.out
      have hk0 : ¬ (k : Int) < (n : Int) := by omega
      have c0 := HXQ.out.m0
      have c1 := HXQ.out.m1
      have c2 := HXQ.out.m2
      have r0 := (HBL.out.cell (p := ⟨w.heap.size, 0, none⟩) (show w.heap.size < oo by omega)).trans HY4.out.m0
      have r1 := (HBL.out.cell (p := ⟨w.heap.size, 1, none⟩) (show w.heap.size < oo by omega)).trans HY4.out.m1
      have r2 := (HBL.out.cell (p := ⟨w.heap.size, 2, none⟩) (show w.heap.size < oo by omega)).trans HY4.out.m2
      have s0 := (HBL.out.frozen (p := ⟨w.heap.size, 0, none⟩) (show w.heap.size < oo by omega)).trans (HY4.out.frozen 0)
      have s1 := (HBL.out.frozen (p := ⟨w.heap.size, 1, none⟩) (show w.heap.size < oo by omega)).trans (HY4.out.frozen 1)
      have s2 := (HBL.out.frozen (p := ⟨w.heap.size, 2, none⟩) (show w.heap.size < oo by omega)).trans (HY4.out.frozen 2)
      have HO9 := Lib.hid ho
      have HKZ := Lib.hid (show kerTo p n z k = kerZ p n z by unfold kerZ; rw [HE.out])
      clear ho
      go_wp2_with fail
      refine bodyPost_ret (v := .agg #[.int .i64 p, .int .i64 (n : Int), .slice va (kerTo p n z k).length vc]) (by simp [results, Try.results82, go_sem, r0, r1, r2]) rfl ?_
      have h8 := HO9.out
      rw [HKZ.out] at h8 ⊢
      refine ⟨⟨va, vc, rfl, us, ?_⟩, ?_⟩
      · have h9 := HOO.out
        exact ((((h8.setCell3 (p := ⟨w.heap.size, 0, none⟩) (by show w.heap.size < oo + 1; omega) _).setCell3 (p := ⟨w.heap.size, 1, none⟩) (by show w.heap.size < oo + 1; omega) _).setCell3 (p := ⟨w.heap.size, 2, none⟩) (by show w.heap.size < oo + 1; omega) _)).mono3 (by omega)
      · exact (((HBW.out.setCell (p := ⟨w.heap.size, 0, none⟩) (Nat.le_refl _) _).setCell (p := ⟨w.heap.size, 1, none⟩) (Nat.le_refl _) _).setCell (p := ⟨w.heap.size, 2, none⟩) (Nat.le_refl _) _)
end Go.Proofs.Ytnebkhelobpkpaa

namespace Go.Proofs.Ytnebkhelobpkpaa
open Go.RowKit Go.Deep
set_option linter.unusedVariables false

/-- The cells of a matrix within a scheme's block. -/
structure MatAt (W : World) (q : Nat) (v0 v1 v2 : Value) : Prop where
  m0 : W.cell? ⟨q, 2, none⟩ = some v0
  m1 : W.cell? ⟨q, 3, none⟩ = some v1
  m2 : W.cell? ⟨q, 4, none⟩ = some v2
theorem MatAt.lt {W : World} {q : Nat} {v0 v1 v2 : Value} (h : MatAt W q v0 v1 v2) : q < W.heap.size := World.block_lt_of_cell? _ _ h.m0
theorem MatAt.same {W W' : World} {q : Nat} {v0 v1 v2 : Value} (h : MatAt W q v0 v1 v2) (e : W'.heap[q]? = W.heap[q]?) : MatAt W' q v0 v1 v2 := by
  refine ⟨?_, ?_, ?_⟩
  · have h1 := h.m0; unfold World.cell? at h1 ⊢; rw [e]; exact h1
  · have h1 := h.m1; unfold World.cell? at h1 ⊢; rw [e]; exact h1
  · have h1 := h.m2; unfold World.cell? at h1 ⊢; rw [e]; exact h1
theorem MatAt.step {W W' : World} {q : Nat} {v0 v1 v2 : Value} (h : MatAt W q v0 v1 v2) (hb : Below W.heap.size W W') : MatAt W' q v0 v1 v2 := h.same (hb.block q h.lt)

set_option maxRecDepth 100000 in
set_option maxHeartbeats 4000000 in
theorem l03Turned2_any (q0 : Nat) (p : Int) (cn : Nat) (a : Option Addr) (z : List (List Int)) (ca : Nat) (w : World) (hbx : MatAt w q0 (.int .i64 p) (.int .i64 (cn : Int)) (.slice a z.length ca)) (hr : Rows2 w a z) (hz : z.length ≤ 1000) (hcn : cn ≤ 1000) (hrow : ∀ r, r < z.length → (nthL z r).length = cn) :
    Calls Try.prog 80 #[.pointer (some ⟨q0, 2, none⟩)] w fun e w' => (∃ va vc us, e = .returned (.agg #[.int .i64 p, .int .i64 (z.length : Int), .slice va cn vc]) ∧ Own w' w.heap.size (.slice va cn vc) us (turned z cn)) ∧ Below w.heap.size w w' := by
  have HR := Lib.hid hr
  have HRW := Lib.hid hrow
  have HQ := Lib.hid hbx
  have hq0 := hbx.lt
  clear hr hbx hrow
  go_enter Try.func80, Try.ntmps80
  go_wp2_with fail
  have hb1 := (Below.refl w.heap.size w).alloc (Nat.le_refl _) (.cells #[.int .i64 0, .int .i64 0, .slice none 0 0] 46)
  have HY := Lib.hid (show Boxes (w.alloc (.cells #[.int .i64 0, .int .i64 0, .slice none 0 0] 46)) w.heap.size 46 #[.int .i64 0, .int .i64 0, .slice none 0 0] from World.alloc_heap_new _ _)
  have HQ1 := Lib.hid (HQ.out.step hb1)
  have HB1 := Lib.hid hb1
  have hs1 : (w.alloc (.cells #[.int .i64 0, .int .i64 0, .slice none 0 0] 46)).heap.size = w.heap.size + 1 := by simp
  generalize w.alloc (.cells #[.int .i64 0, .int .i64 0, .slice none 0 0] 46) = w1 at *
  have x0 := HQ1.out.m0
  have x1 := HQ1.out.m1
  have x2 := HQ1.out.m2
  have hq1 := HQ1.out.lt
  clear hb1 HQ
  go_region
  have hb2 := ((Below.refl (w.heap.size + 1) w1).alloc (Nat.le_of_eq hs1.symm) (.cells #[.int .i64 p, .int .i64 (z.length : Int), .slice none 0 0] 46)).drew
  have hbo : Boxes (w1.alloc (.cells #[.int .i64 p, .int .i64 (z.length : Int), .slice none 0 0] 46)).drew (w.heap.size + 1) 46 #[.int .i64 p, .int .i64 (z.length : Int), .slice none 0 0] := by
    have : Boxes (w1.alloc (.cells #[.int .i64 p, .int .i64 (z.length : Int), .slice none 0 0] 46)) w1.heap.size 46 #[.int .i64 p, .int .i64 (z.length : Int), .slice none 0 0] := World.alloc_heap_new _ _
    rw [hs1] at this
    exact this.step (drew_step _)
  generalize (w1.alloc (.cells #[.int .i64 p, .int .i64 (z.length : Int), .slice none 0 0] 46)).drew = w2 at *
  have HB2 := Lib.hid hb2
  have HO := Lib.hid hbo
  have HY2 := Lib.hid (show Boxes w2 w.heap.size 46 #[.int .i64 0, .int .i64 0, .slice none 0 0] from (hb2.block w.heap.size (by omega)).trans HY.out)
  have HQ2 := Lib.hid (show MatAt w2 q0 (.int .i64 p) (.int .i64 (cn : Int)) (.slice a z.length ca) from HQ1.out.same (hb2.block q0 (by omega)))
  have hs2 : w.heap.size + 2 ≤ w2.heap.size := hbo.lt
  generalize hoo : w.heap.size + 1 = oo at *
  have HOO := Lib.hid hoo
  clear hb2 hbo x0 x1 x2
  obtain ⟨i0, hi, hz0, hz1, hz2⟩ := info_parts Try.infoInt64
  obtain ⟨i1, ji, jz0, jz1, jz2⟩ := info_parts Try.infoInt64S
  go_wp2_with fail
  go_loopw [4, 5, 6] (fun i q5 q6 wr => ∃ (k : Nat) (va : Option Addr) (vc : Nat) (us : List Value), k ≤ cn ∧ i = .int .i64 k ∧ Boxes wr oo 46 #[.int .i64 p, .int .i64 (z.length : Int), .slice va k vc] ∧ Own wr (oo + 1) (.slice va k vc) us ((turned z cn).take k) ∧ Below oo w2 wr)
    (fun i _ _ _ => cn - (intOf i).toNat)
  case atStart => exact ⟨0, none, 0, [], Nat.zero_le _, rfl, HO.out, Own.nil3 _ _, Below.refl _ _⟩
  case round =>
    obtain ⟨k, va, vc, us, hk, rfl, hx, hown, hb⟩ := hrel
    have HXQ := Lib.hid hx
    have HOQ := Lib.hid hown
    have HBL := Lib.hid hb
    have hooq1 : oo + 1 ≤ wr.heap.size := hx.lt
    have bm1 := (hb.cell (p := ⟨q0, 3, none⟩) (show q0 < oo by omega)).trans HQ2.out.m1
    have HBW := Lib.hid (show Below w.heap.size w wr from HB1.out.trans ((HB2.out.mono (by omega)).trans (hb.mono (by omega))))
    clear hx hown hb
    obtain ⟨wo, rfl⟩ : ∃ wo : World, wo = wr := ⟨_, rfl⟩
    by_cases hlt : k < cn
    · have hi0 : (k : Int) < (cn : Int) := by omega
      go_wp2_with fail
      have hown0 : OwnI (wo.alloc (.cells #[] 2)) wo.heap.size (.slice (some ⟨wo.heap.size, 0, none⟩) 0 0) (colOf z k 0) := by
        exact World.ownsRow_made wo (base := wo.heap.size) (e := 2) (size := 1) #[] 0 (Nat.le_refl _) (by unfold maxLen; omega) rfl
      have HOW := Lib.hid hown0
      have HBA := Lib.hid ((Below.refl wo.heap.size wo).alloc (Nat.le_refl _) (.cells #[] 2))
      clear hown0
      generalize wo.alloc (.cells #[] 2) = w4 at *
      generalize (Value.slice (some ⟨wo.heap.size, 0, none⟩) 0 0) = v0 at *
      go_loopw [5, 6] (fun q5 i wi => ∃ (j : Nat), j ≤ z.length ∧ i = .int .i64 j ∧ OwnI wi wo.heap.size q5 (colOf z k j) ∧ Below wo.heap.size wo wi)
        (fun _ i _ => z.length - (intOf i).toNat)
      case atStart => exact ⟨0, Nat.zero_le _, rfl, HOW.out, HBA.out⟩
      case round =>
        obtain ⟨j, hj, rfl, ho, hb⟩ := hrel
        have HOI := Lib.hid ho
        have HBI := Lib.hid hb
        have hsz := hb.size
        have bi2 := (hb.cell (p := ⟨q0, 4, none⟩) (show q0 < wo.heap.size by omega)).trans ((HBL.out.cell (p := ⟨q0, 4, none⟩) (show q0 < oo by omega)).trans HQ2.out.m2)
        clear ho hb HOW HBA bm1
        by_cases hltj : j < z.length
        · have hr3 : Rows2 wr a z := HR.out.below (HBW.out.trans (HBI.out.mono HBW.out.size)) (Nat.le_refl _)
          rcases hr3 with h | ⟨zb, zo, rfl, hzc⟩
          · rw [h] at hltj; exact absurd hltj (Nat.not_lt_zero _)
          obtain ⟨ai, ci, hrow, hints⟩ := hzc j hltj
          have hlen := HRW.out j hltj
          have hj0 : (j : Int) < (z.length : Int) := by omega
          rcases hints with h | ⟨b2, o2, rfl, hc2⟩
          · exact absurd (show (nthL z j).length = 0 by rw [h]; rfl) (by omega)
          have hel := hc2 k (by omega)
          rw [hlen] at hrow
          have HCS := Lib.hid (colOf_snoc z k j)
          generalize nth (nthL z j) k = x at hel HCS
          have hlj : (colOf z k j).length = j := colOf_len z k j
          have HLJ := Lib.hid hlj
          clear hzc hc2 hlj
          go_wp2_with (at_builtin; refine wpList_append_own _ rfl _ _ 35 rfl wo.heap.size 2 i0 (.int .i64 0) 1 8 Try.underlying35 hi hz0 hz1 hz2 rfl (by decide) _ _ _ rfl (World.ownsRow.alloc HOI.out _) ⟨wr.heap.size, 0, none⟩ 1 1 [.int .i64 x] rfl rfl (cell_one_new _ _ _) (by simp [Value.oneCell']) (by rw [HLJ.out]; unfold maxLen; omega) (by rw [HLJ.out]; omega) (by simp; omega) ?_; intro v' w6 hown6 hgrow6 _)
          have H6 := Lib.hid (show OwnI w6 wo.heap.size v' (colOf z k (j + 1)) by
            rw [HCS.out]; unfold OwnI; rw [vals_snoc, List.length_append]; exact hown6)
          have HB6 := Lib.hid ((HBI.out.alloc hsz (.cells #[.int .i64 x] 2)).grown hgrow6 (by simp; omega) (fun q hq => (row_lt HOI.out hq).1))
          clear hown6 hgrow6
          go_wp2_with fail
          go_roundw
          case rel => exact ⟨j + 1, by omega, by go_num, H6.out, HB6.out⟩
          case measure => simp [intOf]; omega
        · have HE := Lib.hid (show j = z.length by omega)
          have hx1 := HXQ.out.step HBI.out
          have e2 := hx1.m2
          have f2 := hx1.frozen 2
          have hl1 := hx1.lt
          have hx1w : oo < wr.heap.size + 1 := by omega
          have HX1 := Lib.hid hx1
          have HOI2 := Lib.hid (show OwnI wr wo.heap.size u5 (colOf z k z.length) by have := HOI.out; rw [HE.out] at this; exact this)
          obtain ⟨ua, uc, hu5⟩ := rowForm HOI2.out
          rw [colOf_len] at hu5
          subst hu5
          have HRN := Lib.hid (HOQ.out.rows.snoc HBI.out HOI2.out hooq1)
          have HOG := Lib.hid (row_step HOQ.out.row HBI.out)
          have hlk : ((turned z cn).take k).length = k := by rw [List.length_take, turned_len]; omega
          have HLK := Lib.hid hlk
          have HTK := Lib.hid (turned_take z cn k hlt)
          clear hx1 hlk HOI
          go_wp2_with (at_builtin; refine wpList_append_own _ rfl _ _ 36 rfl (oo + 1) 35 i1 (.slice none 0 0) 1 24 Try.underlying36 ji jz0 jz1 jz2 rfl (by decide) _ _ us rfl (World.ownsRow.alloc HOG.out _) ⟨wr.heap.size, 0, none⟩ 1 1 [(.slice ua z.length uc)] rfl rfl (cell_one_new _ _ _) (by simp [Value.oneCell']) (by rw [HLK.out]; unfold maxLen; omega) (by rw [HLK.out]; omega) (by simp; omega) ?_; intro v' w7 hown7 hgrow7 _; rw [HLK.out] at hown7; obtain ⟨va', vc', rfl⟩ := rowForm hown7; have hxx := (HX1.out.step ((Below.refl _ _).alloc (Nat.le_refl _) (.cells #[(.slice ua z.length uc)] 35))).grown hgrow7 (row_ge HOG.out (Nat.lt_succ_self _)); have g2 := hxx.m2; have gf := hxx.frozen 2)
          have hz7 : oo < w7.heap.size := hxx.lt
          have HX7 := Lib.hid hxx
          have HO7 := Lib.hid hown7
          have HG7 := Lib.hid hgrow7
          clear hxx hown7 hgrow7
          go_wp2_with fail
          go_roundw
          case rel =>
            refine ⟨k + 1, va', vc', us ++ [(.slice ua z.length uc)], by omega, by go_num, HX7.out.set3d _, ⟨?_, ?_⟩, ?_⟩
            · have := row_set (u := .slice va' (k + 1) vc') (o := 2) HO7.out (Nat.lt_succ_self oo)
              rw [HTK.out, List.length_append, HLK.out]
              exact this
            · rw [HTK.out]
              refine (HRN.out.map (W' := w7) fun u zs ho => row_other (World.ownsRow.alloc ho _) (World.ownsRow.alloc HOG.out _) HG7.out (by decide)).map fun u zs ho => row_set ho (Nat.lt_succ_self oo) _
            · refine Below.setCell (p := ⟨oo, 2, none⟩) ?_ (Nat.le_refl oo) _
              exact ((HBL.out.trans (HBI.out.mono (by omega))).alloc (by omega) _).grown HG7.out (by simp; omega) (fun q hq => by have := row_lt HOG.out hq; omega)
          case measure => simp [intOf]; omega
    · have HE := Lib.hid (show k = cn by omega)
      have ht : (turned z cn).take k = turned z cn := by rw [HE.out]; exact List.take_of_length_le (by rw [turned_len]; omega)
      have ho := HOQ.out
      rw [ht, HE.out] at ho
      have c0 := HXQ.out.m0
      have c1 := HXQ.out.m1
      have c2 := HXQ.out.m2
      rw [HE.out] at c2
      have r0 := (HBL.out.cell (p := ⟨w.heap.size, 0, none⟩) (show w.heap.size < oo by omega)).trans HY2.out.m0
      have r1 := (HBL.out.cell (p := ⟨w.heap.size, 1, none⟩) (show w.heap.size < oo by omega)).trans HY2.out.m1
      have r2 := (HBL.out.cell (p := ⟨w.heap.size, 2, none⟩) (show w.heap.size < oo by omega)).trans HY2.out.m2
      have s0 := (HBL.out.frozen (p := ⟨w.heap.size, 0, none⟩) (show w.heap.size < oo by omega)).trans (HY2.out.frozen 0)
      have s1 := (HBL.out.frozen (p := ⟨w.heap.size, 1, none⟩) (show w.heap.size < oo by omega)).trans (HY2.out.frozen 1)
      have s2 := (HBL.out.frozen (p := ⟨w.heap.size, 2, none⟩) (show w.heap.size < oo by omega)).trans (HY2.out.frozen 2)
      have HO9 := Lib.hid ho
      clear ho ht
      go_wp2_with fail
      refine bodyPost_ret (v := .agg #[.int .i64 p, .int .i64 (z.length : Int), .slice va cn vc]) (by simp [results, Try.results80, go_sem, r0, r1, r2]) rfl ⟨⟨va, vc, us, rfl, ?_⟩, ?_⟩
      · have h9 := HOO.out
        exact ((((HO9.out.setCell3 (p := ⟨w.heap.size, 0, none⟩) (by show w.heap.size < oo + 1; omega) _).setCell3 (p := ⟨w.heap.size, 1, none⟩) (by show w.heap.size < oo + 1; omega) _).setCell3 (p := ⟨w.heap.size, 2, none⟩) (by show w.heap.size < oo + 1; omega) _)).mono3 (by omega)
      · exact (((HBW.out.setCell (p := ⟨w.heap.size, 0, none⟩) (Nat.le_refl _) _).setCell (p := ⟨w.heap.size, 1, none⟩) (Nat.le_refl _) _).setCell (p := ⟨w.heap.size, 2, none⟩) (Nat.le_refl _) _)
end Go.Proofs.Ytnebkhelobpkpaa

namespace Go.Proofs.Ytnebkhelobpkpaa
open Go.RowKit Go.Deep
set_option linter.unusedVariables false

set_option maxRecDepth 100000 in
set_option maxHeartbeats 2000000 in
theorem l04Told_any (h f l : Int) (ao : Option Addr) (yo : List Int) (co : Nat) (a : Option Addr) (z : List (List Int)) (c : Nat) (w : World) (ha : InS w ao yo a z) (hla : LenS yo z) :
    Calls Try.prog 83 #[.agg #[.int .i64 h, .slice ao yo.length co, .int .i64 f, .int .i64 l, .slice a z.length c]] w fun e w' => ((SchOk h yo f l z ∧ e = .returned (.tuple #[.agg #[.int .i64 h, .slice ao yo.length co, .int .i64 f, .int .i64 l, .slice a z.length c], .int .i64 0])) ∨ (¬ SchOk h yo f l z ∧ e = .returned (.tuple #[.agg #[.int .i64 0, .slice none 0 0, .int .i64 0, .int .i64 0, .slice none 0 0], .int .i64 3]))) ∧ Below w.heap.size w w' := by
  have HLA := Lib.hid hla
  have hb2 : Below w.heap.size w ((w.alloc (.cells #[.int .i64 h, .slice ao yo.length co, .int .i64 f, .int .i64 l, .slice a z.length c] 48)).alloc (.cells #[.int .i64 0, .slice none 0 0, .int .i64 0, .int .i64 0, .slice none 0 0] 48)) := ((Below.refl w.heap.size w).alloc (Nat.le_refl _) _).alloc (by simp) _
  have hx : Boxes ((w.alloc (.cells #[.int .i64 h, .slice ao yo.length co, .int .i64 f, .int .i64 l, .slice a z.length c] 48)).alloc (.cells #[.int .i64 0, .slice none 0 0, .int .i64 0, .int .i64 0, .slice none 0 0] 48)) w.heap.size 48 #[.int .i64 h, .slice ao yo.length co, .int .i64 f, .int .i64 l, .slice a z.length c] := Boxes.step (World.alloc_heap_new w _) ((Below.refl _ _).alloc (Nat.le_refl _) _)
  have hz : Boxes ((w.alloc (.cells #[.int .i64 h, .slice ao yo.length co, .int .i64 f, .int .i64 l, .slice a z.length c] 48)).alloc (.cells #[.int .i64 0, .slice none 0 0, .int .i64 0, .int .i64 0, .slice none 0 0] 48)) (w.heap.size + 1) 48 #[.int .i64 0, .slice none 0 0, .int .i64 0, .int .i64 0, .slice none 0 0] := by
    have : Boxes ((w.alloc (.cells #[.int .i64 h, .slice ao yo.length co, .int .i64 f, .int .i64 l, .slice a z.length c] 48)).alloc (.cells #[.int .i64 0, .slice none 0 0, .int .i64 0, .int .i64 0, .slice none 0 0] 48)) (w.alloc (.cells #[.int .i64 h, .slice ao yo.length co, .int .i64 f, .int .i64 l, .slice a z.length c] 48)).heap.size 48 #[.int .i64 0, .slice none 0 0, .int .i64 0, .int .i64 0, .slice none 0 0] := World.alloc_heap_new _ _
    simp only [World.size_alloc] at this
    exact this
  have HA := Lib.hid (ha.step hb2)
  clear ha hla
  go_enter Try.func83, Try.ntmps83
  go_wp2_with fail
  refine (l04Ok_any w.heap.size h f l ao yo co a z c _ hx HA.out HLA.out).mono ?_
  generalize (w.alloc (.cells #[.int .i64 h, .slice ao yo.length co, .int .i64 f, .int .i64 l, .slice a z.length c] 48)).alloc (.cells #[.int .i64 0, .slice none 0 0, .int .i64 0, .int .i64 0, .slice none 0 0] 48) = w2 at *
  rintro e w3 ⟨rfl, hq⟩
  have hbq := quiet_below hq
  have hx3 := hx.step hbq
  have hz3 := hz.step hbq
  have HB3 := Lib.hid (chain hb2 hbq)
  have a0 := hx3.s0
  have r0 := hz3.s0
  have rf0 := hz3.frozen 0
  have a1 := hx3.s1
  have r1 := hz3.s1
  have rf1 := hz3.frozen 1
  have a2 := hx3.s2
  have r2 := hz3.s2
  have rf2 := hz3.frozen 2
  have a3 := hx3.s3
  have r3 := hz3.s3
  have rf3 := hz3.frozen 3
  have a4 := hx3.s4
  have r4 := hz3.s4
  have rf4 := hz3.frozen 4
  have lx := hx3.lt
  have lz := hz3.lt
  clear hb2 hx hz hq hbq hx3 hz3
  by_cases hm : SchOk h yo f l z
  · have HT := Lib.hid (tell_true hm)
    have HM := Lib.hid hm
    clear hm
    rw [HT.out]
    go_wp2_with fail
    refine bodyPost_ret (v := .tuple #[.agg #[.int .i64 h, .slice ao yo.length co, .int .i64 f, .int .i64 l, .slice a z.length c], .int .i64 0]) (by simp [results, Try.results83, go_sem, r0, r1, r2, r3, r4]) rfl ⟨.inl ⟨HM.out, rfl⟩, (((((HB3.out.setCell (p := ⟨w.heap.size + 1, 0, none⟩) (Nat.le_succ _) _).setCell (p := ⟨w.heap.size + 1, 1, none⟩) (Nat.le_succ _) _).setCell (p := ⟨w.heap.size + 1, 2, none⟩) (Nat.le_succ _) _).setCell (p := ⟨w.heap.size + 1, 3, none⟩) (Nat.le_succ _) _).setCell (p := ⟨w.heap.size + 1, 4, none⟩) (Nat.le_succ _) _)⟩
  · have HT := Lib.hid (tell_false hm)
    have HM := Lib.hid hm
    clear hm
    rw [HT.out]
    go_wp2_with fail
    refine bodyPost_ret (v := .tuple #[.agg #[.int .i64 0, .slice none 0 0, .int .i64 0, .int .i64 0, .slice none 0 0], .int .i64 3]) (by simp [results, Try.results83, go_sem, r0, r1, r2, r3, r4]) rfl ⟨.inr ⟨HM.out, rfl⟩, (((((HB3.out.setCell (p := ⟨w.heap.size + 1, 0, none⟩) (Nat.le_succ _) _).setCell (p := ⟨w.heap.size + 1, 1, none⟩) (Nat.le_succ _) _).setCell (p := ⟨w.heap.size + 1, 2, none⟩) (Nat.le_succ _) _).setCell (p := ⟨w.heap.size + 1, 3, none⟩) (Nat.le_succ _) _).setCell (p := ⟨w.heap.size + 1, 4, none⟩) (Nat.le_succ _) _)⟩
end Go.Proofs.Ytnebkhelobpkpaa

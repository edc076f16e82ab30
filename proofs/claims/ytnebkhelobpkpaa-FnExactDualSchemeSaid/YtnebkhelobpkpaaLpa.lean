/- l04Part of the model. -/
import Derived.Test.YtnebkhelobpkpaaPz
import Derived.Test.YtnebkhelobpkpaaCp3
import Derived.Test.YtnebkhelobpkpaaRd3
import Derived.Deep.AppendLies
import Derived.Deep.RegionHeld3
namespace Go.Proofs.Ytnebkhelobpkpaa
open Go.RowKit Go.Deep Go.Joins Go.ChangeShapes Go.WideShapes Go.ChangeAt
set_option linter.unusedVariables false

set_option maxRecDepth 100000 in
set_option maxHeartbeats 8000000 in
theorem l04Part_any (q0 : Nat) (h f l : Int) (ao : Option Addr) (yo : List Int) (co : Nat) (a : Option Addr) (z : List (List Int)) (c : Nat) (ag : Option Addr) (gs : List Int) (cg : Nat) (w : World) (hbx : Boxes w q0 48 #[.int .i64 h, .slice ao yo.length co, .int .i64 f, .int .i64 l, .slice a z.length c]) (hr : InS w ao yo a z) (hok : SchOk h yo f l z) (hg : Ints w ag gs) (hlg : gs.length ≤ 9223372036854775807) :
    Calls Try.prog 70 #[.pointer (some ⟨q0, 0, none⟩), .slice ag gs.length cg] w fun e w' => (∃ va vc us, e = .returned (.agg #[.int .i64 f, .int .i64 l, .slice va (partI yo gs).length vc]) ∧ Own w' w.heap.size (.slice va (partI yo gs).length vc) us (partZ yo z gs)) ∧ Below w.heap.size w w' := by
  have hz20 : z.length ≤ 20 := hok.2.1.2.2.1
  have HYZ := Lib.hid (show yo.length = z.length from hok.2.2.2.1)
  have HZL := Lib.hid (show ∀ r, r < z.length → (nthL z r).length ≤ 12 from fun r hr => mat_rows hok.2.1 hr)
  have HR := Lib.hid hr
  have HG := Lib.hid hg
  have HQ := Lib.hid hbx
  have hq0 := hbx.lt
  clear hr hbx hok hg
  go_enter Try.func70, Try.ntmps70
  go_wp2_with fail
  have hb1 := al_b w (.cells #[.int .i64 0, .int .i64 0, .slice none 0 0] 46)
  have HY := Lib.hid (show Boxes (w.alloc (.cells #[.int .i64 0, .int .i64 0, .slice none 0 0] 46)) w.heap.size 46 #[.int .i64 0, .int .i64 0, .slice none 0 0] from World.alloc_heap_new _ _)
  have HQ1 := Lib.hid (HQ.out.step hb1)
  have HB1 := Lib.hid hb1
  have hs1 : (w.alloc (.cells #[.int .i64 0, .int .i64 0, .slice none 0 0] 46)).heap.size = w.heap.size + 1 := by simp
  generalize w.alloc (.cells #[.int .i64 0, .int .i64 0, .slice none 0 0] 46) = w1 at *
  have x2 := HQ1.out.s2
  have x3 := HQ1.out.s3
  have hq1 := HQ1.out.lt
  clear hb1 HQ
  go_region
  have hb2 := ((Below.refl (w.heap.size + 1) w1).alloc (Nat.le_of_eq hs1.symm) (.cells #[.int .i64 f, .int .i64 l, .slice none 0 0] 46)).drew
  have hbo : Boxes (w1.alloc (.cells #[.int .i64 f, .int .i64 l, .slice none 0 0] 46)).drew (w.heap.size + 1) 46 #[.int .i64 f, .int .i64 l, .slice none 0 0] := by
    have : Boxes (w1.alloc (.cells #[.int .i64 f, .int .i64 l, .slice none 0 0] 46)) w1.heap.size 46 #[.int .i64 f, .int .i64 l, .slice none 0 0] := World.alloc_heap_new _ _
    rw [hs1] at this
    exact this.step (drew_step _)
  generalize (w1.alloc (.cells #[.int .i64 f, .int .i64 l, .slice none 0 0] 46)).drew = w2 at *
  have HY2 := Lib.hid (show Boxes w2 w.heap.size 46 #[.int .i64 0, .int .i64 0, .slice none 0 0] from (hb2.block w.heap.size (by omega)).trans HY.out)
  have HQ2 := Lib.hid (show Boxes w2 q0 48 #[.int .i64 h, .slice ao yo.length co, .int .i64 f, .int .i64 l, .slice a z.length c] from (hb2.block q0 (by omega)).trans HQ1.out)
  have hbw2 := HB1.out.trans (hb2.mono (by omega))
  have HR2 := Lib.hid (HR.out.below hbw2 (Nat.le_refl _))
  have HG2 := Lib.hid (HG.out.below hbw2 (Nat.le_refl _))
  have HBW2 := Lib.hid hbw2
  have HO := Lib.hid hbo
  have hs2 : w.heap.size + 2 ≤ w2.heap.size := hbo.lt
  generalize hoo : w.heap.size + 1 = oo at *
  have HOO := Lib.hid hoo
  clear hb2 hbo x2 x3 hbw2
  obtain ⟨i1, ji, jz0, jz1, jz2⟩ := info_parts Try.infoInt64S
  go_wp2_with fail
  refine (l04Held_any q0 h f l ao yo co a z c ag gs cg w2 HQ2.out HR2.out (by have := HYZ.out; omega) HG2.out hlg).mono ?_
  rintro e w3 ⟨⟨rv, rfl, hrv⟩, hb3⟩
  change OwnI w3 w2.heap.size rv (partI yo gs) at hrv
  have HPI := Lib.hid (fun i (hi : i < (partI yo gs).length) => pickTo_in hi)
  have hrl : (partI yo gs).length ≤ 20 := by have := partI_len yo gs; have := HYZ.out; omega
  obtain ⟨rs, hrs⟩ : ∃ rs, partI yo gs = rs := ⟨_, rfl⟩
  have HRS := Lib.hid hrs
  have HPZ := Lib.hid (show partZ yo z gs = rowsOf z rs from by unfold partZ; rw [hrs])
  have HRI := Lib.hid (show ∀ i, i < rs.length → 0 ≤ nth rs i ∧ nth rs i < z.length from fun i hi => by rw [← hrs] at hi ⊢; have h9 := HPI.out i hi; have h8 := HYZ.out; unfold partI at *; exact ⟨h9.1, by omega⟩)
  rw [hrs] at hrv hrl
  clear HPI hrs
  obtain ⟨ra, rc, rfl⟩ := rowForm hrv
  have HLI := Lib.hid hrv
  have HX3 := Lib.hid (HO.out.step hb3)
  have HB3 := Lib.hid (hb3.mono (show oo ≤ w2.heap.size by omega))
  clear hrv hb3
  go_wp2_with fail
  go_loopw [7] (fun i wr => ∃ (k : Nat) (va : Option Addr) (vc : Nat) (us : List Value), k ≤ rs.length ∧ i = .int .i64 k ∧ Boxes wr oo 46 #[.int .i64 f, .int .i64 l, .slice va k vc] ∧ Own wr (oo + 1) (.slice va k vc) us ((rowsOf z rs).take k) ∧ OwnI wr (oo + 1) (.slice ra rs.length rc) rs ∧ Below oo w2 wr)
    (fun i _ => rs.length - (intOf i).toNat)
  case atStart => exact ⟨0, none, 0, [], Nat.zero_le _, rfl, HX3.out, Own.nil3 _ _, ownsRow_mono HLI.out (by omega), HB3.out⟩
  case round =>
    obtain ⟨k, va, vc, us, hk, rfl, hx, hown, hli, hb⟩ := hrel
    have HXQ := Lib.hid hx
    have HOQ := Lib.hid hown
    have HLK := Lib.hid hli
    have HBL := Lib.hid hb
    have hooq1 : oo + 1 ≤ wr.heap.size := hx.lt
    have c2 := hx.m2
    have k2 := hx.frozen 2
    have hol := hx.lt
    have q4 := (hb.cell (p := ⟨q0, 4, none⟩) (show q0 < oo by omega)).trans HQ2.out.s4
    have hql : q0 < wr.heap.size := by omega
    have r0 := (hb.cell (p := ⟨w.heap.size, 0, none⟩) (show w.heap.size < oo by omega)).trans HY2.out.m0
    have r1 := (hb.cell (p := ⟨w.heap.size, 1, none⟩) (show w.heap.size < oo by omega)).trans HY2.out.m1
    have r2 := (hb.cell (p := ⟨w.heap.size, 2, none⟩) (show w.heap.size < oo by omega)).trans HY2.out.m2
    have s0 := (hb.frozen (p := ⟨w.heap.size, 0, none⟩) (show w.heap.size < oo by omega)).trans (HY2.out.frozen 0)
    have s1 := (hb.frozen (p := ⟨w.heap.size, 1, none⟩) (show w.heap.size < oo by omega)).trans (HY2.out.frozen 1)
    have s2 := (hb.frozen (p := ⟨w.heap.size, 2, none⟩) (show w.heap.size < oo by omega)).trans (HY2.out.frozen 2)
    have HBW := Lib.hid (show Below w.heap.size w wr from HBW2.out.trans (hb.mono (by omega)))
    clear hx hown hb hli
    by_cases hlt : k < rs.length
    · have hi0 : (k : Int) < (rs.length : Int) := by omega
      obtain ⟨lb, lc, hle, hlb, hlbl⟩ := World.ownsRow.form (show wr.ownsRow (oo + 1) 2 1 (.slice ra rs.length rc) rs.length (vals rs) from HLK.out) (by omega)
      cases hle
      have hlc := World.ownsRow.cellAt HLK.out k (by omega)
      have hin := HRI.out k hlt
      obtain ⟨r, hr⟩ : ∃ r : Nat, nth rs k = (r : Int) := ⟨(nth rs k).toNat, by omega⟩
      have HRR := Lib.hid hr
      rw [vals_at rs hlt, hr] at hlc
      rw [hr] at hin
      have hrz : r < z.length := by omega
      have hrz0 : (r : Int) < (z.length : Int) := by omega
      have hr0 : (0 : Int) ≤ (r : Int) := by omega
      clear hr hin
      rcases HR.out.r with h9 | ⟨zb, zo, rfl, hzc0⟩
      · rw [h9] at hrz; exact absurd hrz (Nat.not_lt_zero _)
      obtain ⟨_, _, hrow00, -⟩ := hzc0 r hrz
      have hzl := World.block_lt_of_cell? _ _ hrow00
      simp only at hzl
      have hrr : Rows2 wr (some ⟨zb, zo, none⟩) z := HR.out.r.below HBW.out (Nat.le_refl _)
      rcases hrr with h9 | ⟨zb', zo', he9, hzc⟩
      · rw [h9] at hrz; exact absurd hrz (Nat.not_lt_zero _)
      cases he9
      obtain ⟨ai, ci, hrow, hints⟩ := hzc r hrz
      have HI2 := Lib.hid hints
      have hrl2 : (nthL z r).length ≤ 1048576 := by have := HZL.out r hrz; omega
      have HT1 := Lib.hid (show (rowsOf z rs).take (k + 1) = (rowsOf z rs).take k ++ [nthL z r] from by rw [take_snoc _ (by rw [rowsOf_len]; exact hlt), rowsOf_nth z rs hlt, HRR.out]; simp)
      have hlk : ((rowsOf z rs).take k).length = k := by rw [List.length_take, rowsOf_len]; omega
      have HLN := Lib.hid hlk
      have HZC := Lib.hid hrow
      have HLC := Lib.hid hlc
      have HQC := Lib.hid q4
      have hzlt : zb < oo := by omega
      have hql2 : q0 < oo := by omega
      have HNE := Lib.hid (rows_apart HLK.out HOQ.out.row (by decide))
      clear hzc hzc0 hints hlk hrow00 r0 r1 r2 s0 s1 s2
      have MKW := Lib.hid (show ∀ w' : World, w'.heap[q0]? = wr.heap[q0]? → w'.heap[lb]? = wr.heap[lb]? → w'.heap[zb]? = wr.heap[zb]? → w'.cell? ⟨q0, 4, none⟩ = some (.slice (some ⟨zb, zo, none⟩) z.length c) ∧ w'.cell? ⟨lb, k, none⟩ = some (.int .i64 (r : Int)) ∧ w'.cell? ⟨zb, zo + r, none⟩ = some (.slice ai (nthL z r).length ci) from fun w' h1 h2 h3 => ⟨by have := HQC.out; unfold World.cell? at this ⊢; rw [h1]; exact this, by have := HLC.out; unfold World.cell? at this ⊢; rw [h2]; exact this, by have := HZC.out; unfold World.cell? at this ⊢; rw [h3]; exact this⟩)
      have MK := Lib.hid (show ∀ w' : World, Below wr.heap.size wr w' → w'.cell? ⟨q0, 4, none⟩ = some (.slice (some ⟨zb, zo, none⟩) z.length c) ∧ w'.cell? ⟨lb, k, none⟩ = some (.int .i64 (r : Int)) ∧ w'.cell? ⟨zb, zo + r, none⟩ = some (.slice ai (nthL z r).length ci) from fun w' hw => MKW.out w' (hw.block _ hql) (hw.block _ hlbl) (hw.block _ (by omega)))
      have MKS := Lib.hid (show ∀ (W : World) {y : Value}, (W.cell? ⟨q0, 4, none⟩ = some (.slice (some ⟨zb, zo, none⟩) z.length c) ∧ W.cell? ⟨lb, k, none⟩ = some (.int .i64 (r : Int)) ∧ W.cell? ⟨zb, zo + r, none⟩ = some (.slice ai (nthL z r).length ci)) → (W.setCell ⟨oo, 2, none⟩ y).cell? ⟨q0, 4, none⟩ = some (.slice (some ⟨zb, zo, none⟩) z.length c) ∧ (W.setCell ⟨oo, 2, none⟩ y).cell? ⟨lb, k, none⟩ = some (.int .i64 (r : Int)) ∧ (W.setCell ⟨oo, 2, none⟩ y).cell? ⟨zb, zo + r, none⟩ = some (.slice ai (nthL z r).length ci) from fun W y h => ⟨by have h1 := h.1; unfold World.cell? at h1 ⊢; rw [Below.heap_setCell _ _ _ _ (by simp; omega)]; exact h1, by have h1 := h.2.1; unfold World.cell? at h1 ⊢; rw [Below.heap_setCell _ _ _ _ (by simp; omega)]; exact h1, by have h1 := h.2.2; unfold World.cell? at h1 ⊢; rw [Below.heap_setCell _ _ _ _ (by simp; omega)]; exact h1⟩)
      go_wp2_with fail
      refine wp_region_noPanic ?_
      refine wp_region_held_drew (S := (fun w' => w'.cell? ⟨q0, 4, none⟩ = some (.slice (some ⟨zb, zo, none⟩) z.length c) ∧ w'.cell? ⟨lb, k, none⟩ = some (.int .i64 (r : Int)) ∧ w'.cell? ⟨zb, zo + r, none⟩ = some (.slice ai (nthL z r).length ci))) (by kernel_rfl) ?_ (fun hH => ?_)
      · exact MK.out _ (drew_step _)
      refine wpAnyH_take (i := 0) (oi := ?oi1) (v := ?v1) ?hi1 (by kernel_rfl) (by kernel_rfl) (by kernel_rfl) (fun _ _ _ h => h) (Or.inl ⟨?hw1, ?hy1⟩) hH ?rest1
      case hi1 => (simp only [List.getElem?_toArray, List.getElem?_cons_zero]; rfl)
      case hw1 => rfl
      case hy1 => (intro w hSw; (try dsimp only at hSw); go_simp; try with_reducible rfl)
      (try simp only [Act.put, List.setIfInBounds_toArray, List.set_cons_zero, List.set_cons_succ])
      refine wpAnyH_take (i := 2) (oi := ?oi2) (v := ?v2) ?hi2 (by kernel_rfl) (by kernel_rfl) (by kernel_rfl) (fun _ _ _ h => h) (Or.inl ⟨?hw2, ?hy2⟩) hH ?rest2
      case hi2 => (simp only [List.getElem?_toArray, List.getElem?_cons_succ, List.getElem?_cons_zero]; rfl)
      case hw2 => rfl
      case hy2 => (intro w hSw; (try dsimp only at hSw); go_simp; try with_reducible rfl)
      (try simp only [Act.put, List.setIfInBounds_toArray, List.set_cons_zero, List.set_cons_succ])
      refine wpAnyH_take (i := 3) (oi := ?oi3) (v := ?v3) ?hi3 (by kernel_rfl) (by kernel_rfl) (by kernel_rfl) (fun _ _ _ h => h) (Or.inl ⟨?hw3, ?hy3⟩) hH ?rest3
      case hi3 => (simp only [List.getElem?_toArray, List.getElem?_cons_succ, List.getElem?_cons_zero]; rfl)
      case hw3 => rfl
      case hy3 => (intro w hSw; (try dsimp only at hSw); go_simp; try with_reducible rfl)
      (try simp only [Act.put, List.setIfInBounds_toArray, List.set_cons_zero, List.set_cons_succ])
      refine wpAnyH_take (i := 4) (oi := ?oi4) (v := ?v4) ?hi4 (by kernel_rfl) (by kernel_rfl) (by kernel_rfl) (fun _ _ _ h => h) (Or.inl ⟨?hw4, ?hy4⟩) hH ?rest4
      case hi4 => (simp only [List.getElem?_toArray, List.getElem?_cons_succ, List.getElem?_cons_zero]; rfl)
      case hw4 => rfl
      case hy4 => (intro w hSw; (try dsimp only at hSw); go_simp; try with_reducible rfl)
      (try simp only [Act.put, List.setIfInBounds_toArray, List.set_cons_zero, List.set_cons_succ])
      refine wpAnyH_take (i := 5) (oi := ?oi5) (v := ?v5) ?hi5 (by kernel_rfl) (by kernel_rfl) (by kernel_rfl) (fun _ _ _ h => h) (Or.inl ⟨?hw5, ?hy5⟩) hH ?rest5
      case hi5 => (simp only [List.getElem?_toArray, List.getElem?_cons_succ, List.getElem?_cons_zero]; rfl)
      case hw5 => rfl
      case hy5 => (intro w hSw; (try dsimp only at hSw); go_simp; try with_reducible rfl)
      (try simp only [Act.put, List.setIfInBounds_toArray, List.set_cons_zero, List.set_cons_succ])
      refine wpAnyH_take (i := 6) (oi := ?oi6) (v := ?v6) ?hi6 (by kernel_rfl) (by kernel_rfl) (by kernel_rfl) (fun _ _ _ h => h) (Or.inl ⟨?hw6, ?hy6⟩) hH ?rest6
      case hi6 => (simp only [List.getElem?_toArray, List.getElem?_cons_succ, List.getElem?_cons_zero]; rfl)
      case hw6 => rfl
      case hy6 => (intro w hSw; (try dsimp only at hSw); go_simp; try with_reducible rfl)
      (try simp only [Act.put, List.setIfInBounds_toArray, List.set_cons_zero, List.set_cons_succ])
      refine wpAnyH_take (i := 7) (oi := ?oi7) (v := ?v7) ?hi7 (by kernel_rfl) (by kernel_rfl) (by kernel_rfl) (fun _ _ _ h => h) (Or.inl ⟨?hw7, ?hy7⟩) hH ?rest7
      case hi7 => (simp only [List.getElem?_toArray, List.getElem?_cons_succ, List.getElem?_cons_zero]; rfl)
      case hw7 => rfl
      case hy7 => (intro w hSw; (try dsimp only at hSw); go_simp; try with_reducible rfl)
      (try simp only [Act.put, List.setIfInBounds_toArray, List.set_cons_zero, List.set_cons_succ])
      refine wpAnyH_take (i := 8) (oi := ?oi8) (v := ?v8) ?hi8 (by kernel_rfl) (by kernel_rfl) (by kernel_rfl) (fun _ _ _ h => h) (Or.inl ⟨?hw8, ?hy8⟩) hH ?rest8
      case hi8 => (simp only [List.getElem?_toArray, List.getElem?_cons_succ, List.getElem?_cons_zero]; rfl)
      case hw8 => rfl
      case hy8 => (intro w hSw; (try dsimp only at hSw); go_simp; try with_reducible rfl)
      (try simp only [Act.put, List.setIfInBounds_toArray, List.set_cons_zero, List.set_cons_succ])
      refine wpAnyH_take (i := 9) (oi := ?oi9) (v := ?v9) ?hi9 (by kernel_rfl) (by kernel_rfl) (by kernel_rfl) (fun _ _ _ h => h) (Or.inl ⟨?hw9, ?hy9⟩) hH ?rest9
      case hi9 => (simp only [List.getElem?_toArray, List.getElem?_cons_succ, List.getElem?_cons_zero]; rfl)
      case hw9 => rfl
      case hy9 => (intro w hSw; (try dsimp only at hSw); go_simp; try with_reducible rfl)
      (try simp only [Act.put, List.setIfInBounds_toArray, List.set_cons_zero, List.set_cons_succ])
      refine wpAnyH_take (i := 10) (oi := ?oi10) (v := ?v10) ?hi10 (by kernel_rfl) (by kernel_rfl) (by kernel_rfl) (fun _ _ _ h => h) (Or.inl ⟨?hw10, ?hy10⟩) hH ?rest10
      case hi10 => (simp only [List.getElem?_toArray, List.getElem?_cons_succ, List.getElem?_cons_zero]; rfl)
      case hw10 => rfl
      case hy10 => (intro w hSw; (try dsimp only at hSw); go_simp; try with_reducible rfl)
      (try simp only [Act.put, List.setIfInBounds_toArray, List.set_cons_zero, List.set_cons_succ])
      refine wpAnyH_take (i := 11) (oi := ?oi11) (v := ?v11) ?hi11 (by kernel_rfl) (by kernel_rfl) (by kernel_rfl) (fun _ _ _ h => h) (Or.inl ⟨?hw11, ?hy11⟩) hH ?rest11
      case hi11 => (simp only [List.getElem?_toArray, List.getElem?_cons_succ, List.getElem?_cons_zero]; rfl)
      case hw11 => rfl
      case hy11 => (intro w hSw; (try dsimp only at hSw); go_simp; try with_reducible rfl)
      (try simp only [Act.put, List.setIfInBounds_toArray, List.set_cons_zero, List.set_cons_succ])
      refine wpAnyH_take (i := 12) (oi := ?oi12) (v := ?v12) ?hi12 (by kernel_rfl) (by kernel_rfl) (by kernel_rfl) (fun _ _ _ h => h) (Or.inl ⟨?hw12, ?hy12⟩) hH ?rest12
      case hi12 => (simp only [List.getElem?_toArray, List.getElem?_cons_succ, List.getElem?_cons_zero]; rfl)
      case hw12 => rfl
      case hy12 => (intro w hSw; (try dsimp only at hSw); go_simp; try with_reducible rfl)
      (try simp only [Act.put, List.setIfInBounds_toArray, List.set_cons_zero, List.set_cons_succ])
      refine wpAnyH_ready (rs := [1, 13]) (by kernel_rfl) (by simp) ?_
      refine AllReadyH.cons (o := ?o13) ?ho13 (fun K hK => ?step13) ?more13
      case ho13 => (simp only [List.getElem?_toArray, List.getElem?_cons_succ, List.getElem?_cons_zero]; rfl)
      case step13 =>
        go_simp
        refine hK.out _ _ ?_ (fun hH0 => ?_)
        · exact hH
        clear hK K hH
        (try simp only [Act.put, List.setIfInBounds_toArray, List.set_cons_zero, List.set_cons_succ])
        refine wpAnyH_ready (rs := [13]) (by kernel_rfl) (by simp) ?_
        refine AllReadyH.cons (o := ?o14) ?ho14 (fun K hK => ?step14) ?more14
        case ho14 => (simp only [List.getElem?_toArray, List.getElem?_cons_succ, List.getElem?_cons_zero]; rfl)
        case step14 =>
          go_simp
          go_at_call 73; refine (l00Own_any ai (nthL z r) ci _ (HI2.out.below (Below.refl _ _).drew (Nat.le_refl _)) hrl2).mono ?_; rintro e w5 ⟨⟨v5, rfl, hv5⟩, hb5⟩; obtain ⟨v5a, v5c, rfl⟩ := rowForm hv5; have HB5 := Lib.hid (show Below wr.heap.size wr w5 from (drew_step wr).trans hb5); have HV5 := Lib.hid (show OwnI w5 wr.heap.size (.slice v5a (nthL z r).length v5c) (nthL z r) from hv5); clear hv5 hb5; have z0 := (HXQ.out.step HB5.out).m2; have zf := (HXQ.out.step HB5.out).frozen 2; have zl : oo < w5.heap.size := (HXQ.out.step HB5.out).lt
          go_wp2_with fail
          refine hK.out _ _ ?_ (fun hH1 => ?_)
          · exact MK.out _ HB5.out
          clear hK K hH0
          (try simp only [Act.put, List.setIfInBounds_toArray, List.set_cons_zero, List.set_cons_succ])
          refine wpAnyH_ready (rs := [14]) (by kernel_rfl) (by simp) ?_
          refine AllReadyH.cons (o := ?o15) ?ho15 (fun K hK => ?step15) ?more15
          case ho15 => (simp only [List.getElem?_toArray, List.getElem?_cons_succ, List.getElem?_cons_zero]; rfl)
          case step15 =>
            go_simp
            refine hK.out _ _ ?_ (fun hH2 => ?_)
            · exact MK.out _ (HB5.out.alloc HB5.out.size _)
            clear hK K hH1
            (try simp only [Act.put, List.setIfInBounds_toArray, List.set_cons_zero, List.set_cons_succ])
            refine wpAnyH_ready (rs := [15]) (by kernel_rfl) (by simp) ?_
            refine AllReadyH.cons (o := ?o16) ?ho16 (fun K hK => ?step16) ?more16
            case ho16 => (simp only [List.getElem?_toArray, List.getElem?_cons_succ, List.getElem?_cons_zero]; rfl)
            case step16 =>
              refine step_append_lies _ (by rfl) _ _ 36 (by rfl) (oo + 1) 35 i1 (.slice none 0 0) 1 24 Try.underlying36 ji jz0 jz1 jz2 (by rfl) (by decide) (.slice va k vc) k us (by rfl) (by have h := World.ownsRow.alloc (row_step HOQ.out.row HB5.out) (.cells #[.slice v5a (nthL z r).length v5c] 35); rw [HLN.out] at h; exact h) ⟨w5.heap.size, 0, none⟩ 1 1 [.slice v5a (nthL z r).length v5c] (by rfl) (by rfl) (cell_one_new _ _ _) (by simp [Value.oneCell']) (by decide) (by unfold maxLen; omega) (by omega) (by have := HB5.out.size; simp; omega) _ rfl ?_; intro g cap w8 hown8 hgrow8 hat8 hlt8; have HA5 := Lib.hid (HB5.out.alloc HB5.out.size (.cells #[.slice v5a (nthL z r).length v5c] 35)); have hx8 := Boxes.grown (HXQ.out.step HA5.out) hgrow8 (row_ge HOQ.out.row (Nat.lt_succ_self _)); have t0 := hx8.m2; have tf := hx8.frozen 2; have tl : oo < w8.heap.size := hx8.lt; have hne8 : some lb ≠ (Value.slice va k vc).ownBlock := (by rcases HNE.out with e | e <;> simp [Value.ownBlock] at e ⊢ <;> exact e); have K8 := Lib.hid (MKW.out _ ((hgrow8.block q0 (by have := HA5.out.size; omega) (row_ge HOQ.out.row (by omega)).symm).trans (HA5.out.block q0 hql)) ((hgrow8.block lb (by have := HA5.out.size; omega) hne8).trans (HA5.out.block lb hlbl)) ((hgrow8.block zb (by have := HA5.out.size; omega) (row_ge HOQ.out.row (by omega)).symm).trans (HA5.out.block zb (by omega))))
              refine hK.out _ _ ?_ (fun hH3 => ?_)
              · exact K8.out
              clear hK K hH2
              (try simp only [Act.put, List.setIfInBounds_toArray, List.set_cons_zero, List.set_cons_succ])
              refine wpAnyH_take (i := 16) (oi := ?oi17) (v := ?v17) ?hi17 (by kernel_rfl) (by kernel_rfl) (by kernel_rfl) (fun _ _ _ h => h) (Or.inl ⟨?hw17, ?hy17⟩) hH3 ?rest17
              case hi17 => (simp only [List.getElem?_toArray, List.getElem?_cons_succ, List.getElem?_cons_zero]; rfl)
              case hw17 => rfl
              case hy17 => (intro w hSw; (try dsimp only at hSw); go_simp; try with_reducible rfl)
              (try simp only [Act.put, List.setIfInBounds_toArray, List.set_cons_zero, List.set_cons_succ])
              refine wpAnyH_ready (rs := [17]) (by kernel_rfl) (by simp) ?_
              refine AllReadyH.cons (o := ?o18) ?ho18 (fun K hK => ?step18) ?more18
              case ho18 => (simp only [List.getElem?_toArray, List.getElem?_cons_succ, List.getElem?_cons_zero]; rfl)
              case step18 =>
                go_simp
                refine hK.out _ _ ?_ (fun hH5 => ?_)
                · exact MKS.out _ K8.out
                clear hK K hH3
                (try simp only [Act.put, List.setIfInBounds_toArray, List.set_cons_zero, List.set_cons_succ])
                refine wpAnyH_done (by kernel_rfl) ?_ _
                refine NoPanic.normal ?_
                have HX8 := Lib.hid hx8
                have H8 := Lib.hid hown8
                have HV8 := Lib.hid (show RowsOwn w8 (oo + 1) (us ++ [.slice v5a (nthL z r).length v5c]) ((rowsOf z rs).take k ++ [nthL z r]) from (HOQ.out.rows.snoc HB5.out HV5.out hooq1).map fun u zs ho => row_other (World.ownsRow.alloc ho _) (World.ownsRow.alloc (row_step HOQ.out.row HB5.out) _) hgrow8 (by decide))
                have HL8 := Lib.hid (show OwnI w8 (oo + 1) (.slice (some ⟨lb, 0, none⟩) rs.length rc) rs from row_keepT (row_keepT HLK.out (KeepT.of_below HA5.out)) (KeepT.grown (World.ownsRow.alloc (row_step HOQ.out.row HB5.out) _) hgrow8 (by decide)))
                have HB8 := Lib.hid (show Below oo w2 w8 from (HBL.out.trans (HA5.out.mono (by omega))).grown hgrow8 (by have := HA5.out.size; omega) (fun q hq => by have := row_lt HOQ.out.row hq; omega))
                clear hx8 hown8 hgrow8 hat8 hlt8 c2 k2 q4 hlc hrow
                go_wp2_with fail
                go_roundw
                case rel =>
                  refine ⟨k + 1, some ⟨g, 0, none⟩, cap, us ++ [.slice v5a (nthL z r).length v5c], by omega, by go_num, HX8.out.set3d _, ⟨?_, ?_⟩, row_set HL8.out (Nat.lt_succ_self _) _, HB8.out.setCell (p := ⟨oo, 2, none⟩) (Nat.le_refl _) _⟩
                  · have h := row_set (u := .slice (some ⟨g, 0, none⟩) (k + 1) cap) (o := 2) H8.out (Nat.lt_succ_self oo)
                    rw [HT1.out, List.length_append, HLN.out]
                    exact h
                  · rw [HT1.out]
                    exact HV8.out.map fun u zs ho => row_set ho (Nat.lt_succ_self _) _
                case measure => simp [intOf]; omega
              exact AllReadyH.nil
            exact AllReadyH.nil
          exact AllReadyH.nil
        exact AllReadyH.nil
      refine AllReadyH.cons (o := ?o19) ?ho19 (fun K hK => ?step19) ?more19
      case ho19 => (simp only [List.getElem?_toArray, List.getElem?_cons_succ, List.getElem?_cons_zero]; rfl)
      case step19 =>
        go_simp
        go_at_call 73; refine (l00Own_any ai (nthL z r) ci _ (HI2.out.below (Below.refl _ _).drew (Nat.le_refl _)) hrl2).mono ?_; rintro e w5 ⟨⟨v5, rfl, hv5⟩, hb5⟩; obtain ⟨v5a, v5c, rfl⟩ := rowForm hv5; have HB5 := Lib.hid (show Below wr.heap.size wr w5 from (drew_step wr).trans hb5); have HV5 := Lib.hid (show OwnI w5 wr.heap.size (.slice v5a (nthL z r).length v5c) (nthL z r) from hv5); clear hv5 hb5; have z0 := (HXQ.out.step HB5.out).m2; have zf := (HXQ.out.step HB5.out).frozen 2; have zl : oo < w5.heap.size := (HXQ.out.step HB5.out).lt
        go_wp2_with fail
        refine hK.out _ _ ?_ (fun hH0 => ?_)
        · exact MK.out _ HB5.out
        clear hK K hH
        (try simp only [Act.put, List.setIfInBounds_toArray, List.set_cons_zero, List.set_cons_succ])
        refine wpAnyH_ready (rs := [1, 14]) (by kernel_rfl) (by simp) ?_
        refine AllReadyH.cons (o := ?o20) ?ho20 (fun K hK => ?step20) ?more20
        case ho20 => (simp only [List.getElem?_toArray, List.getElem?_cons_succ, List.getElem?_cons_zero]; rfl)
        case step20 =>
          go_simp
          refine hK.out _ _ ?_ (fun hH1 => ?_)
          · exact hH0
          clear hK K hH0
          (try simp only [Act.put, List.setIfInBounds_toArray, List.set_cons_zero, List.set_cons_succ])
          refine wpAnyH_ready (rs := [14]) (by kernel_rfl) (by simp) ?_
          refine AllReadyH.cons (o := ?o21) ?ho21 (fun K hK => ?step21) ?more21
          case ho21 => (simp only [List.getElem?_toArray, List.getElem?_cons_succ, List.getElem?_cons_zero]; rfl)
          case step21 =>
            go_simp
            refine hK.out _ _ ?_ (fun hH2 => ?_)
            · exact MK.out _ (HB5.out.alloc HB5.out.size _)
            clear hK K hH1
            (try simp only [Act.put, List.setIfInBounds_toArray, List.set_cons_zero, List.set_cons_succ])
            refine wpAnyH_ready (rs := [15]) (by kernel_rfl) (by simp) ?_
            refine AllReadyH.cons (o := ?o22) ?ho22 (fun K hK => ?step22) ?more22
            case ho22 => (simp only [List.getElem?_toArray, List.getElem?_cons_succ, List.getElem?_cons_zero]; rfl)
            case step22 =>
              refine step_append_lies _ (by rfl) _ _ 36 (by rfl) (oo + 1) 35 i1 (.slice none 0 0) 1 24 Try.underlying36 ji jz0 jz1 jz2 (by rfl) (by decide) (.slice va k vc) k us (by rfl) (by have h := World.ownsRow.alloc (row_step HOQ.out.row HB5.out) (.cells #[.slice v5a (nthL z r).length v5c] 35); rw [HLN.out] at h; exact h) ⟨w5.heap.size, 0, none⟩ 1 1 [.slice v5a (nthL z r).length v5c] (by rfl) (by rfl) (cell_one_new _ _ _) (by simp [Value.oneCell']) (by decide) (by unfold maxLen; omega) (by omega) (by have := HB5.out.size; simp; omega) _ rfl ?_; intro g cap w8 hown8 hgrow8 hat8 hlt8; have HA5 := Lib.hid (HB5.out.alloc HB5.out.size (.cells #[.slice v5a (nthL z r).length v5c] 35)); have hx8 := Boxes.grown (HXQ.out.step HA5.out) hgrow8 (row_ge HOQ.out.row (Nat.lt_succ_self _)); have t0 := hx8.m2; have tf := hx8.frozen 2; have tl : oo < w8.heap.size := hx8.lt; have hne8 : some lb ≠ (Value.slice va k vc).ownBlock := (by rcases HNE.out with e | e <;> simp [Value.ownBlock] at e ⊢ <;> exact e); have K8 := Lib.hid (MKW.out _ ((hgrow8.block q0 (by have := HA5.out.size; omega) (row_ge HOQ.out.row (by omega)).symm).trans (HA5.out.block q0 hql)) ((hgrow8.block lb (by have := HA5.out.size; omega) hne8).trans (HA5.out.block lb hlbl)) ((hgrow8.block zb (by have := HA5.out.size; omega) (row_ge HOQ.out.row (by omega)).symm).trans (HA5.out.block zb (by omega))))
              refine hK.out _ _ ?_ (fun hH3 => ?_)
              · exact K8.out
              clear hK K hH2
              (try simp only [Act.put, List.setIfInBounds_toArray, List.set_cons_zero, List.set_cons_succ])
              refine wpAnyH_take (i := 16) (oi := ?oi23) (v := ?v23) ?hi23 (by kernel_rfl) (by kernel_rfl) (by kernel_rfl) (fun _ _ _ h => h) (Or.inl ⟨?hw23, ?hy23⟩) hH3 ?rest23
              case hi23 => (simp only [List.getElem?_toArray, List.getElem?_cons_succ, List.getElem?_cons_zero]; rfl)
              case hw23 => rfl
              case hy23 => (intro w hSw; (try dsimp only at hSw); go_simp; try with_reducible rfl)
              (try simp only [Act.put, List.setIfInBounds_toArray, List.set_cons_zero, List.set_cons_succ])
              refine wpAnyH_ready (rs := [17]) (by kernel_rfl) (by simp) ?_
              refine AllReadyH.cons (o := ?o24) ?ho24 (fun K hK => ?step24) ?more24
              case ho24 => (simp only [List.getElem?_toArray, List.getElem?_cons_succ, List.getElem?_cons_zero]; rfl)
              case step24 =>
                go_simp
                refine hK.out _ _ ?_ (fun hH5 => ?_)
                · exact MKS.out _ K8.out
                clear hK K hH3
                (try simp only [Act.put, List.setIfInBounds_toArray, List.set_cons_zero, List.set_cons_succ])
                refine wpAnyH_done (by kernel_rfl) ?_ _
                refine NoPanic.normal ?_
                have HX8 := Lib.hid hx8
                have H8 := Lib.hid hown8
                have HV8 := Lib.hid (show RowsOwn w8 (oo + 1) (us ++ [.slice v5a (nthL z r).length v5c]) ((rowsOf z rs).take k ++ [nthL z r]) from (HOQ.out.rows.snoc HB5.out HV5.out hooq1).map fun u zs ho => row_other (World.ownsRow.alloc ho _) (World.ownsRow.alloc (row_step HOQ.out.row HB5.out) _) hgrow8 (by decide))
                have HL8 := Lib.hid (show OwnI w8 (oo + 1) (.slice (some ⟨lb, 0, none⟩) rs.length rc) rs from row_keepT (row_keepT HLK.out (KeepT.of_below HA5.out)) (KeepT.grown (World.ownsRow.alloc (row_step HOQ.out.row HB5.out) _) hgrow8 (by decide)))
                have HB8 := Lib.hid (show Below oo w2 w8 from (HBL.out.trans (HA5.out.mono (by omega))).grown hgrow8 (by have := HA5.out.size; omega) (fun q hq => by have := row_lt HOQ.out.row hq; omega))
                clear hx8 hown8 hgrow8 hat8 hlt8 c2 k2 q4 hlc hrow
                go_wp2_with fail
                go_roundw
                case rel =>
                  refine ⟨k + 1, some ⟨g, 0, none⟩, cap, us ++ [.slice v5a (nthL z r).length v5c], by omega, by go_num, HX8.out.set3d _, ⟨?_, ?_⟩, row_set HL8.out (Nat.lt_succ_self _) _, HB8.out.setCell (p := ⟨oo, 2, none⟩) (Nat.le_refl _) _⟩
                  · have h := row_set (u := .slice (some ⟨g, 0, none⟩) (k + 1) cap) (o := 2) H8.out (Nat.lt_succ_self oo)
                    rw [HT1.out, List.length_append, HLN.out]
                    exact h
                  · rw [HT1.out]
                    exact HV8.out.map fun u zs ho => row_set ho (Nat.lt_succ_self _) _
                case measure => simp [intOf]; omega
              exact AllReadyH.nil
            exact AllReadyH.nil
          exact AllReadyH.nil
        refine AllReadyH.cons (o := ?o25) ?ho25 (fun K hK => ?step25) ?more25
        case ho25 => (simp only [List.getElem?_toArray, List.getElem?_cons_succ, List.getElem?_cons_zero]; rfl)
        case step25 =>
          go_simp
          refine hK.out _ _ ?_ (fun hH1 => ?_)
          · exact MK.out _ (HB5.out.alloc HB5.out.size _)
          clear hK K hH0
          (try simp only [Act.put, List.setIfInBounds_toArray, List.set_cons_zero, List.set_cons_succ])
          refine wpAnyH_ready (rs := [1]) (by kernel_rfl) (by simp) ?_
          refine AllReadyH.cons (o := ?o26) ?ho26 (fun K hK => ?step26) ?more26
          case ho26 => (simp only [List.getElem?_toArray, List.getElem?_cons_succ, List.getElem?_cons_zero]; rfl)
          case step26 =>
            go_simp
            refine hK.out _ _ ?_ (fun hH2 => ?_)
            · exact hH1
            clear hK K hH1
            (try simp only [Act.put, List.setIfInBounds_toArray, List.set_cons_zero, List.set_cons_succ])
            refine wpAnyH_ready (rs := [15]) (by kernel_rfl) (by simp) ?_
            refine AllReadyH.cons (o := ?o27) ?ho27 (fun K hK => ?step27) ?more27
            case ho27 => (simp only [List.getElem?_toArray, List.getElem?_cons_succ, List.getElem?_cons_zero]; rfl)
            case step27 =>
              refine step_append_lies _ (by rfl) _ _ 36 (by rfl) (oo + 1) 35 i1 (.slice none 0 0) 1 24 Try.underlying36 ji jz0 jz1 jz2 (by rfl) (by decide) (.slice va k vc) k us (by rfl) (by have h := World.ownsRow.alloc (row_step HOQ.out.row HB5.out) (.cells #[.slice v5a (nthL z r).length v5c] 35); rw [HLN.out] at h; exact h) ⟨w5.heap.size, 0, none⟩ 1 1 [.slice v5a (nthL z r).length v5c] (by rfl) (by rfl) (cell_one_new _ _ _) (by simp [Value.oneCell']) (by decide) (by unfold maxLen; omega) (by omega) (by have := HB5.out.size; simp; omega) _ rfl ?_; intro g cap w8 hown8 hgrow8 hat8 hlt8; have HA5 := Lib.hid (HB5.out.alloc HB5.out.size (.cells #[.slice v5a (nthL z r).length v5c] 35)); have hx8 := Boxes.grown (HXQ.out.step HA5.out) hgrow8 (row_ge HOQ.out.row (Nat.lt_succ_self _)); have t0 := hx8.m2; have tf := hx8.frozen 2; have tl : oo < w8.heap.size := hx8.lt; have hne8 : some lb ≠ (Value.slice va k vc).ownBlock := (by rcases HNE.out with e | e <;> simp [Value.ownBlock] at e ⊢ <;> exact e); have K8 := Lib.hid (MKW.out _ ((hgrow8.block q0 (by have := HA5.out.size; omega) (row_ge HOQ.out.row (by omega)).symm).trans (HA5.out.block q0 hql)) ((hgrow8.block lb (by have := HA5.out.size; omega) hne8).trans (HA5.out.block lb hlbl)) ((hgrow8.block zb (by have := HA5.out.size; omega) (row_ge HOQ.out.row (by omega)).symm).trans (HA5.out.block zb (by omega))))
              refine hK.out _ _ ?_ (fun hH3 => ?_)
              · exact K8.out
              clear hK K hH2
              (try simp only [Act.put, List.setIfInBounds_toArray, List.set_cons_zero, List.set_cons_succ])
              refine wpAnyH_take (i := 16) (oi := ?oi28) (v := ?v28) ?hi28 (by kernel_rfl) (by kernel_rfl) (by kernel_rfl) (fun _ _ _ h => h) (Or.inl ⟨?hw28, ?hy28⟩) hH3 ?rest28
              case hi28 => (simp only [List.getElem?_toArray, List.getElem?_cons_succ, List.getElem?_cons_zero]; rfl)
              case hw28 => rfl
              case hy28 => (intro w hSw; (try dsimp only at hSw); go_simp; try with_reducible rfl)
              (try simp only [Act.put, List.setIfInBounds_toArray, List.set_cons_zero, List.set_cons_succ])
              refine wpAnyH_ready (rs := [17]) (by kernel_rfl) (by simp) ?_
              refine AllReadyH.cons (o := ?o29) ?ho29 (fun K hK => ?step29) ?more29
              case ho29 => (simp only [List.getElem?_toArray, List.getElem?_cons_succ, List.getElem?_cons_zero]; rfl)
              case step29 =>
                go_simp
                refine hK.out _ _ ?_ (fun hH5 => ?_)
                · exact MKS.out _ K8.out
                clear hK K hH3
                (try simp only [Act.put, List.setIfInBounds_toArray, List.set_cons_zero, List.set_cons_succ])
                refine wpAnyH_done (by kernel_rfl) ?_ _
                refine NoPanic.normal ?_
                have HX8 := Lib.hid hx8
                have H8 := Lib.hid hown8
                have HV8 := Lib.hid (show RowsOwn w8 (oo + 1) (us ++ [.slice v5a (nthL z r).length v5c]) ((rowsOf z rs).take k ++ [nthL z r]) from (HOQ.out.rows.snoc HB5.out HV5.out hooq1).map fun u zs ho => row_other (World.ownsRow.alloc ho _) (World.ownsRow.alloc (row_step HOQ.out.row HB5.out) _) hgrow8 (by decide))
                have HL8 := Lib.hid (show OwnI w8 (oo + 1) (.slice (some ⟨lb, 0, none⟩) rs.length rc) rs from row_keepT (row_keepT HLK.out (KeepT.of_below HA5.out)) (KeepT.grown (World.ownsRow.alloc (row_step HOQ.out.row HB5.out) _) hgrow8 (by decide)))
                have HB8 := Lib.hid (show Below oo w2 w8 from (HBL.out.trans (HA5.out.mono (by omega))).grown hgrow8 (by have := HA5.out.size; omega) (fun q hq => by have := row_lt HOQ.out.row hq; omega))
                clear hx8 hown8 hgrow8 hat8 hlt8 c2 k2 q4 hlc hrow
                go_wp2_with fail
                go_roundw
                case rel =>
                  refine ⟨k + 1, some ⟨g, 0, none⟩, cap, us ++ [.slice v5a (nthL z r).length v5c], by omega, by go_num, HX8.out.set3d _, ⟨?_, ?_⟩, row_set HL8.out (Nat.lt_succ_self _) _, HB8.out.setCell (p := ⟨oo, 2, none⟩) (Nat.le_refl _) _⟩
                  · have h := row_set (u := .slice (some ⟨g, 0, none⟩) (k + 1) cap) (o := 2) H8.out (Nat.lt_succ_self oo)
                    rw [HT1.out, List.length_append, HLN.out]
                    exact h
                  · rw [HT1.out]
                    exact HV8.out.map fun u zs ho => row_set ho (Nat.lt_succ_self _) _
                case measure => simp [intOf]; omega
              exact AllReadyH.nil
            exact AllReadyH.nil
          exact AllReadyH.nil
        exact AllReadyH.nil
      exact AllReadyH.nil
    · have HE := Lib.hid (show k = rs.length by omega)
      have hk0 : ¬ (k : Int) < (rs.length : Int) := by omega
      have c0 := HXQ.out.m0
      have c1 := HXQ.out.m1
      go_wp2_with fail
      refine bodyPost_ret (v := .agg #[.int .i64 f, .int .i64 l, .slice va k vc]) (by simp [results, Try.results70, go_sem, r0, r1, r2]) rfl ?_
      have hek : k = rs.length := HE.out
      have ho := HOQ.out
      rw [hek, show (rowsOf z rs).take rs.length = rowsOf z rs from by rw [← rowsOf_len z rs, List.take_length]] at ho
      refine ⟨⟨va, vc, by rw [HRS.out, hek], us, ?_⟩, ?_⟩
      · rw [HPZ.out, HRS.out]
        have h9 := HOO.out
        exact (((ho.setCell3 (p := ⟨w.heap.size, 0, none⟩) (by show w.heap.size < oo + 1; omega) _).setCell3 (p := ⟨w.heap.size, 1, none⟩) (by show w.heap.size < oo + 1; omega) _).setCell3 (p := ⟨w.heap.size, 2, none⟩) (by show w.heap.size < oo + 1; omega) _).mono3 (by omega)
      · exact (((HBW.out.setCell (p := ⟨w.heap.size, 0, none⟩) (Nat.le_refl _) _).setCell (p := ⟨w.heap.size, 1, none⟩) (Nat.le_refl _) _).setCell (p := ⟨w.heap.size, 2, none⟩) (Nat.le_refl _) _)
end Go.Proofs.Ytnebkhelobpkpaa

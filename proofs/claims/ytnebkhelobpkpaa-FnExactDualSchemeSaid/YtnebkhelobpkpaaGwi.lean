/- gridWithin of the program. -/
import Derived.Test.YtnebkhelobpkpaaPz
import Derived.Test.YtnebkhelobpkpaaGm
import Derived.Test.YtnebkhelobpkpaaRd3
import Derived.Deep.AppendLies
import Derived.Deep.RegionLaw
import Derived.Deep.DrawnRows
namespace Go.Proofs.Ytnebkhelobpkpaa
open Go.RowKit Go.Deep Go.Joins Go.ChangeShapes Go.WideShapes Go.ChangeAt
set_option linter.unusedVariables false

theorem grid_rows {W : World} {base base2 n c : Nat} {p : Int} {xa : Option Addr} {xs : List Value} {zss : List (List Int)} (ho : W.ownsRow base 173 1 (.slice xa n c) n xs) (hn : n = zss.length) (hr : ∀ j, j < n → ∃ u, xs[j]? = some u ∧ OwnN W base2 p u (nthL zss j)) : GridR W xa p zss := by
  by_cases h0 : n = 0
  · exact .inl (List.eq_nil_of_length_eq_zero (by omega))
  · obtain ⟨g, c', e, -, -⟩ := ho.form (by omega)
    cases e
    refine .inr ⟨g, rfl, fun i hi => ?_⟩
    obtain ⟨u, h1, h2⟩ := hr i (by omega)
    obtain ⟨ai, ci, e2, h3⟩ := h2.nums
    refine ⟨ai, ci, ?_, h3⟩
    rw [World.ownsRow.cellAt ho i (by omega), h1, e2]

/-- A grid of rows that are a call's own, perhaps one row at several places. -/
structure GridO (W : World) (base : Nat) (p : Int) (xa : Option Addr) (n xc : Nat) (zss : List (List Int)) : Prop where
  row : ∃ xs, W.ownsRow base 173 1 (.slice xa n xc) n xs ∧ ∀ j, j < n → ∃ u, xs[j]? = some u ∧ OwnN W base p u (nthL zss j)
  len : n = zss.length
section
variable {W W' : World} {base base' n xc : Nat} {p : Int} {xa : Option Addr} {zss : List (List Int)}
theorem GridO.step (h : GridO W base p xa n xc zss) (hb : Below W.heap.size W W') : GridO W' base p xa n xc zss := by
  obtain ⟨xs, h1, h2⟩ := h.row
  exact ⟨⟨xs, row_step h1 hb, fun j hj => by obtain ⟨u, h3, h4⟩ := h2 j hj; exact ⟨u, h3, h4.step hb⟩⟩, h.len⟩
theorem GridO.mono (h : GridO W base p xa n xc zss) (hb : base' ≤ base) : GridO W base' p xa n xc zss := by
  obtain ⟨xs, h1, h2⟩ := h.row
  exact ⟨⟨xs, ownsRow_mono h1 hb, fun j hj => by obtain ⟨u, h3, h4⟩ := h2 j hj; exact ⟨u, h3, h4.mono hb⟩⟩, h.len⟩
theorem GridO.set (h : GridO W base p xa n xc zss) {q : Addr} (hb : q.block < base) (v : Value) : GridO (W.setCell q v) base p xa n xc zss := by
  obtain ⟨xs, h1, h2⟩ := h.row
  exact ⟨⟨xs, row_seta h1 hb v, fun j hj => by obtain ⟨u, h3, h4⟩ := h2 j hj; exact ⟨u, h3, row_seta h4 hb v⟩⟩, h.len⟩
theorem GridO.grid (h : GridO W base p xa n xc zss) : GridR W xa p zss := by
  obtain ⟨xs, h1, h2⟩ := h.row
  exact grid_rows h1 h.len h2
end

set_option maxRecDepth 100000 in
set_option maxHeartbeats 4000000 in
theorem gridWithinO_any (h f l : Int) (ao : Option Addr) (yo : List Int) (co : Nat) (a : Option Addr) (z : List (List Int)) (c : Nat) (gs : List Int) (w : World) (hr : InS w ao yo a z) (hok : SchOk h yo f l z) (hgr : IsGrp h gs) :
    Calls Try.prog 64 #[.agg #[.int .i64 h, .slice ao yo.length co, .int .i64 f, .int .i64 l, .slice a z.length c], .int .u64 ((bitsOf gs : Nat) : Int)] w fun e w' => (∃ xa xc, e = .returned (.agg #[.slice xa (partI yo gs).length xc, .int .i64 f, .int .i64 l]) ∧ GridO w' w.heap.size f xa (partI yo gs).length xc (partZ yo z gs)) ∧ Below w.heap.size w w' := by
  have hz20 : z.length ≤ 20 := hok.2.1.2.2.1
  have HYZ := Lib.hid (show yo.length = z.length from hok.2.2.2.1)
  have HS := Lib.hid (mat_small hok.2.1)
  have HOKS := Lib.hid hok
  have HGRP := Lib.hid hgr
  have hb2 := ((Below.refl w.heap.size w).alloc (Nat.le_refl _) (.cells #[.int .i64 h, .slice ao yo.length co, .int .i64 f, .int .i64 l, .slice a z.length c] 48)).alloc (by simp) (.cells #[.slice none 0 0, .int .i64 0, .int .i64 0] 102)
  have hx : Boxes ((w.alloc (.cells #[.int .i64 h, .slice ao yo.length co, .int .i64 f, .int .i64 l, .slice a z.length c] 48)).alloc (.cells #[.slice none 0 0, .int .i64 0, .int .i64 0] 102)) w.heap.size 48 #[.int .i64 h, .slice ao yo.length co, .int .i64 f, .int .i64 l, .slice a z.length c] := Boxes.step (World.alloc_heap_new w _) (al_b _ _)
  have hy : Boxes ((w.alloc (.cells #[.int .i64 h, .slice ao yo.length co, .int .i64 f, .int .i64 l, .slice a z.length c] 48)).alloc (.cells #[.slice none 0 0, .int .i64 0, .int .i64 0] 102)) (w.heap.size + 1) 102 #[.slice none 0 0, .int .i64 0, .int .i64 0] := by
    have : Boxes ((w.alloc (.cells #[.int .i64 h, .slice ao yo.length co, .int .i64 f, .int .i64 l, .slice a z.length c] 48)).alloc (.cells #[.slice none 0 0, .int .i64 0, .int .i64 0] 102)) (w.alloc (.cells #[.int .i64 h, .slice ao yo.length co, .int .i64 f, .int .i64 l, .slice a z.length c] 48)).heap.size 102 #[.slice none 0 0, .int .i64 0, .int .i64 0] := World.alloc_heap_new _ _
    simp only [World.size_alloc] at this
    exact this
  have hin := hr.below hb2 (Nat.le_refl _)
  clear hr hok hgr
  have x0 := hx.s0
  have x1 := hx.s1
  have x2 := hx.s2
  have x3 := hx.s3
  have x4 := hx.s4
  have xl := hx.lt
  have hs2 : ((w.alloc (.cells #[.int .i64 h, .slice ao yo.length co, .int .i64 f, .int .i64 l, .slice a z.length c] 48)).alloc (.cells #[.slice none 0 0, .int .i64 0, .int .i64 0] 102)).heap.size = w.heap.size + 2 := by simp
  go_enter Try.func64, Try.ntmps64
  go_wp2_with fail
  generalize (w.alloc (.cells #[.int .i64 h, .slice ao yo.length co, .int .i64 f, .int .i64 l, .slice a z.length c] 48)).alloc (.cells #[.slice none 0 0, .int .i64 0, .int .i64 0] 102) = w2 at *
  refine (gridOf_any f l a z c w2 hin.r HS.out).mono ?_
  rintro e w4 ⟨⟨v, us, rfl, hog⟩, hb4⟩
  obtain ⟨va, vc, rfl⟩ := hog.form
  have HXM := Lib.hid (hx.step hb4)
  have HXR := Lib.hid (hy.step hb4)
  have HIN := Lib.hid (hin.step hb4)
  have HB := Lib.hid (hb2.trans (hb4.mono (by omega)))
  have hsz4 : w2.heap.size ≤ w4.heap.size := hb4.size
  have HOG := Lib.hid hog
  clear hog hb4 hb2 hx hy hin x0 x1 x2 x3 x4 xl
  go_wp2_with fail
  refine (zeros0_any f l _).mono ?_
  have hbg := al_b w4 (.cells #[.slice va z.length vc, .int .i64 f, .int .i64 l] 102)
  have HG := Lib.hid (show Boxes (w4.alloc (.cells #[.slice va z.length vc, .int .i64 f, .int .i64 l] 102)) w4.heap.size 102 #[.slice va z.length vc, .int .i64 f, .int .i64 l] from World.alloc_heap_new _ _)
  have HW5 := Lib.hid (show (w4.alloc (.cells #[.slice va z.length vc, .int .i64 f, .int .i64 l] 102)).heap.size = w4.heap.size + 1 by simp)
  generalize w4.alloc (.cells #[.slice va z.length vc, .int .i64 f, .int .i64 l] 102) = w5 at *
  rintro e w6 ⟨rfl, hb6⟩
  have hw5 : w5.heap.size = w4.heap.size + 1 := HW5.out
  have hb46 := hbg.trans (hb6.mono hbg.size)
  have hsz6 : w4.heap.size + 1 ≤ w6.heap.size := by have := hb6.size; omega
  have HOG6 := Lib.hid (HOG.out.step hb46)
  have HGB6 := Lib.hid (HG.out.step hb6)
  have HXR6 := Lib.hid (HXR.out.step hb46)
  have HB6 := Lib.hid (HB.out.trans (hb46.mono (by omega)))
  have hb7 := al_b w6 (.cells #[.slice none 0 0, .int .i64 f, .int .i64 l] 102)
  have HH := Lib.hid (show Boxes (w6.alloc (.cells #[.slice none 0 0, .int .i64 f, .int .i64 l] 102)) w6.heap.size 102 #[.slice none 0 0, .int .i64 f, .int .i64 l] from World.alloc_heap_new _ _)
  have hxm7 := (HXM.out.step hb46).step hb7
  have HIN7 := Lib.hid ((HIN.out.step hb46).step hb7)
  have hs7 : (w6.alloc (.cells #[.slice none 0 0, .int .i64 f, .int .i64 l] 102)).heap.size = w6.heap.size + 1 := by simp
  have x0 := hxm7.s0
  have x1 := hxm7.s1
  have x2 := hxm7.s2
  have x3 := hxm7.s3
  have x4 := hxm7.s4
  have xl := hxm7.lt
  have HXM7 := Lib.hid hxm7
  have HB67 := Lib.hid hb7
  clear hb6 hb46 hbg HG HXM HXR HIN hw5 HW5 HOG HB hxm7 hb7
  go_wp2_with fail
  generalize w6.alloc (.cells #[.slice none 0 0, .int .i64 f, .int .i64 l] 102) = w7 at *
  refine (rowsWithin_any h f l ao yo co a z c gs w7 HIN7.out HOKS.out HGRP.out).mono ?_
  rintro e w8 ⟨⟨rv, rfl, hrv⟩, hb8⟩
  change OwnI w8 w7.heap.size rv (partI yo gs) at hrv
  have hin := fun i (hi : i < (partI yo gs).length) => pickTo_in hi
  have HPI := Lib.hid hin
  have hrl : (partI yo gs).length ≤ 20 := by have := partI_len yo gs; have := HYZ.out; omega
  obtain ⟨rs, hrs⟩ : ∃ rs, partI yo gs = rs := ⟨_, rfl⟩
  have HRS := Lib.hid hrs
  have HPZ := Lib.hid (show partZ yo z gs = rowsOf z rs from by unfold partZ; rw [hrs])
  have HRI := Lib.hid (show ∀ i, i < rs.length → 0 ≤ nth rs i ∧ nth rs i < z.length from fun i hi => by rw [← hrs] at hi ⊢; have h9 := HPI.out i hi; have h8 := HYZ.out; unfold partI at *; exact ⟨h9.1, by omega⟩)
  rw [hrs] at hrv hrl
  clear hin HPI hrs
  obtain ⟨ra, rc, rfl⟩ := rowForm hrv
  have HLI := Lib.hid hrv
  have HH8 := Lib.hid (HH.out.step hb8)
  have HB68 := Lib.hid (HB67.out.trans (hb8.mono (by omega)))
  have hs8 : w7.heap.size ≤ w8.heap.size := hb8.size
  have h4lt : w4.heap.size < w6.heap.size := by omega
  have h3lt : w.heap.size + 2 ≤ w6.heap.size := by omega
  have x0 := (HXM7.out.step hb8).s0
  clear hrv hb8 HH HB67 HIN7 x0 x1 x2 x3 x4 xl HXM7
  generalize hh6 : w6.heap.size = hh at *
  have HH6 := Lib.hid hh6
  generalize w4.heap.size = gg at *
  go_wp2_with fail
  clear hh6 hsz6 hsz4
  obtain ⟨i1, ji, jz0, jz1, jz2⟩ := info_parts Try.infoNums
  go_loopw [8, 21] (fun q8 i wr => ∃ (k : Nat) (xa : Option Addr) (xc : Nat) (xs : List Value), k ≤ rs.length ∧ i = .int .i64 k ∧ Boxes wr hh 102 #[.slice xa k xc, .int .i64 f, .int .i64 l] ∧ wr.ownsRow (hh + 1) 173 1 (.slice xa k xc) k xs ∧ OwnI wr (hh + 1) (.slice ra rs.length rc) rs ∧ (∀ j, j < k → ∃ u, xs[j]? = some u ∧ OwnN w6 w2.heap.size f u (nthL z (nth rs j).toNat)) ∧ Below hh w6 wr)
    (fun _ i _ => rs.length - (intOf i).toNat)
  case atStart => exact ⟨0, none, 0, [], Nat.zero_le _, rfl, HH8.out, World.ownsRow_nil _ _ _ _, ownsRow_mono HLI.out (by omega), fun j hj => absurd hj (Nat.not_lt_zero _), HB68.out⟩
  case round =>
    obtain ⟨k, xa, xc, xs, hk, rfl, hx, hown, hli, hxs, hb⟩ := hrel
    have HX := Lib.hid hx
    have HO := Lib.hid hown
    have HXS := Lib.hid hxs
    have HBL := Lib.hid hb
    have HLK := Lib.hid hli
    have hszr : hh + 1 ≤ wr.heap.size := hx.lt
    have c0 := hx.m0
    have c1 := hx.m1
    have c2 := hx.m2
    have k0 := hx.frozen 0
    have bg0 := (hb.cell (p := ⟨gg, 0, none⟩) (show gg < hh from h4lt)).trans HGB6.out.m0
    have hlh := hx.lt
    have r0 := (hb.cell (p := ⟨w.heap.size + 1, 0, none⟩) (show w.heap.size + 1 < hh by omega)).trans HXR6.out.m0
    have r1 := (hb.cell (p := ⟨w.heap.size + 1, 1, none⟩) (show w.heap.size + 1 < hh by omega)).trans HXR6.out.m1
    have r2 := (hb.cell (p := ⟨w.heap.size + 1, 2, none⟩) (show w.heap.size + 1 < hh by omega)).trans HXR6.out.m2
    have s0 := (hb.frozen (p := ⟨w.heap.size + 1, 0, none⟩) (show w.heap.size + 1 < hh by omega)).trans (HXR6.out.frozen 0)
    have s1 := (hb.frozen (p := ⟨w.heap.size + 1, 1, none⟩) (show w.heap.size + 1 < hh by omega)).trans (HXR6.out.frozen 1)
    have s2 := (hb.frozen (p := ⟨w.heap.size + 1, 2, none⟩) (show w.heap.size + 1 < hh by omega)).trans (HXR6.out.frozen 2)
    have HBW := Lib.hid (show Below w.heap.size w wr from HB6.out.trans (hb.mono (by omega)))
    clear hx hown hxs hb hli
    by_cases hlt : k < rs.length
    · rcases (Ints_of_own HLK.out) with h9 | ⟨b, o, he9, hc9⟩
      · rw [h9] at hlt; exact absurd hlt (Nat.not_lt_zero _)
      cases he9
      have hcell := hc9 k hlt
      have hi0 : (k : Int) < (rs.length : Int) := by omega
      have hin := HRI.out k hlt
      clear hc9
      obtain ⟨r, hr⟩ : ∃ r : Nat, nth rs k = (r : Int) := ⟨(nth rs k).toNat, by omega⟩
      have HRR := Lib.hid hr
      rw [hr] at hcell hin
      have hrz : r < z.length := by omega
      have hrz0 : (r : Int) < (z.length : Int) := by omega
      have hr0 : (0 : Int) ≤ (r : Int) := by omega
      clear hr hin
      obtain ⟨gb, gc, hge, -, hgl⟩ := HOG6.out.row.form (by omega)
      cases hge
      have hul : us.length = z.length := HOG6.out.rows.len
      have hrow := World.ownsRow.cellAt HOG6.out.row r (by omega)
      have hro := HOG6.out.rows.own r us[r] (nthL z r) (by simp [hul, hrz]) (by rw [nthL_lt hrz]; simp [hrz])
      rw [List.getElem?_eq_getElem (by omega)] at hrow
      obtain ⟨ai, ci, hu⟩ := rowForm hro
      rw [hu] at hrow hro
      have hgl6 : gb < hh := by have := HH6.out; omega
      have hrw := (HBL.out.cell (p := ⟨gb, r, none⟩) hgl6).trans hrow
      have HX9 := Lib.hid (show ∀ j, j < k + 1 → ∃ u, (xs ++ [Value.slice ai (nthL z r).length ci])[j]? = some u ∧ OwnN w6 w2.heap.size f u (nthL z (nth rs j).toNat) from fun j hj => by
        have hxl : xs.length = k := by have := HO.out.1; omega
        by_cases e : j = k
        · subst e
          refine ⟨_, by rw [List.getElem?_append_right (by omega), hxl, Nat.sub_self]; rfl, ?_⟩
          rw [HRR.out]; simpa using hro
        · obtain ⟨u, h2, h3⟩ := HXS.out j (by omega)
          exact ⟨u, by rw [List.getElem?_append_left (by omega)]; exact h2, h3⟩)
      clear hrow hro hu hul
      go_wp2_with fail
      go_region_law ((refine step_append_lies _ (by rfl) _ _ 99 (by rfl) (hh + 1) 173 i1 (.slice none 0 0) 1 24 Try.underlying99 ji jz0 jz1 jz2 (by rfl) (by decide) (.slice xa k xc) k xs (by rfl) (by first | exact World.ownsRow.alloc HO.out _ | exact row_step (World.ownsRow.alloc HO.out _) (drew_step _) | exact World.ownsRow.alloc (row_step HO.out (drew_step _)) _) ⟨wr.heap.size, 0, none⟩ 1 1 [.slice ai (nthL z r).length ci] (by rfl) (by rfl) (by first | exact cell_one_new _ _ _ | (intro j u hj; exact cell_one_new wr _ _ j u hj)) (by simp [Value.oneCell']) (by decide) (by unfold maxLen; omega) (by omega) (by simp; omega) _ rfl ?_; intro g cap w9 hown8 hgrow8 hat8 hlt8; have hx8 := Boxes.grown (Boxes.step HX.out (by first | exact (Below.refl _ _).alloc (Nat.le_refl _) _ | exact ((Below.refl _ _).alloc (Nat.le_refl _) _).drew | exact (Below.refl _ _).drew.alloc (Nat.le_refl _) _)) hgrow8 (row_ge HO.out (Nat.lt_succ_self _)); have y0 := hx8.m0; have y1 := hx8.frozen 0; have y2 := hx8.lt))
      all_goals (
        have HX8 := Lib.hid hx8
        have H8 := Lib.hid hown8
        have HL8 := Lib.hid (show OwnI w9 (hh + 1) (.slice (some ⟨b, o, none⟩) rs.length rc) rs by first | exact row_keepT (row_keepT HLK.out (KeepT.of_below (al_b wr _))) (KeepT.grown (World.ownsRow.alloc HO.out _) hgrow8 (by decide)) | exact row_keepT (row_step (row_keepT HLK.out (KeepT.of_below (al_b wr _))) (drew_step _)) (KeepT.grown (row_step (World.ownsRow.alloc HO.out _) (drew_step _)) hgrow8 (by decide)) | exact row_keepT (row_keepT (row_step HLK.out (drew_step _)) (KeepT.of_below (al_b wr.drew _))) (KeepT.grown (World.ownsRow.alloc (row_step HO.out (drew_step _)) _) hgrow8 (by decide)))
        have HB8 := Lib.hid (show Below hh w6 w9 from Below.grown (by first | exact HBL.out.alloc (by omega) _ | exact (HBL.out.alloc (by omega) _).drew | exact HBL.out.drew.alloc (by simp; omega) _) hgrow8 (by simp only [World.size_drew, World.size_alloc]; omega) (fun q hq => by have := row_lt HO.out hq; omega))
        clear hx8 hown8 hgrow8 hat8 hlt8 y0 y1
        go_wp2_with fail
        go_roundw
        case rel => exact ⟨k + 1, some ⟨g, 0, none⟩, cap, xs ++ [.slice ai (nthL z r).length ci], by omega, by go_num, HX8.out.set3 _, row_set H8.out (Nat.lt_succ_self _) _, row_set HL8.out (Nat.lt_succ_self _) _, HX9.out, HB8.out.setCell (p := ⟨hh, 0, none⟩) (Nat.le_refl _) _⟩
        case measure => simp [intOf]; omega)
    · have HE := Lib.hid (show k = rs.length by omega)
      have HRN := Lib.hid (fun j (hj : j < k) => by
        obtain ⟨u, h1, h2⟩ := HXS.out j hj
        exact (show ∃ u, xs[j]? = some u ∧ OwnN wr w2.heap.size f u (nthL (rowsOf z rs) j) from ⟨u, h1, by rw [rowsOf_nth z rs (by have := HE.out; omega)]; exact h2.step (HBL.out.mono (by have := HH6.out; omega))⟩))
      have hk0 : ¬ (k : Int) < (rs.length : Int) := by omega
      go_wp2_with fail
      refine bodyPost_ret (v := .agg #[.slice xa k xc, .int .i64 f, .int .i64 l]) (by simp [results, Try.results64, go_sem, r0, r1, r2]) rfl ?_
      have hek : k = rs.length := HE.out
      refine ⟨⟨xa, xc, by rw [HRS.out, hek], ?_⟩, ?_⟩
      · rw [HPZ.out, HRS.out, ← hek]
        refine GridO.mono (base := w.heap.size + 2) ?_ (by omega)
        have h9 : GridO wr (w.heap.size + 2) f xa k xc (rowsOf z rs) := ⟨⟨xs, ownsRow_mono HO.out (by omega), fun j hj => by obtain ⟨u, h1, h2⟩ := HRN.out j hj; exact ⟨u, h1, h2.mono (by omega)⟩⟩, by rw [rowsOf_len]; exact hek⟩
        exact ((h9.set (q := ⟨w.heap.size + 1, 0, none⟩) (by show w.heap.size + 1 < w.heap.size + 2; omega) _).set (q := ⟨w.heap.size + 1, 1, none⟩) (by show w.heap.size + 1 < w.heap.size + 2; omega) _).set (q := ⟨w.heap.size + 1, 2, none⟩) (by show w.heap.size + 1 < w.heap.size + 2; omega) _
      · exact (((HBW.out.setCell (p := ⟨w.heap.size + 1, 0, none⟩) (by show w.heap.size ≤ w.heap.size + 1; omega) _).setCell (p := ⟨w.heap.size + 1, 1, none⟩) (by show w.heap.size ≤ w.heap.size + 1; omega) _).setCell (p := ⟨w.heap.size + 1, 2, none⟩) (by show w.heap.size ≤ w.heap.size + 1; omega) _)
theorem gridWithin_any (h f l : Int) (ao : Option Addr) (yo : List Int) (co : Nat) (a : Option Addr) (z : List (List Int)) (c : Nat) (gs : List Int) (w : World) (hr : InS w ao yo a z) (hok : SchOk h yo f l z) (hgr : IsGrp h gs) :
    Calls Try.prog 64 #[.agg #[.int .i64 h, .slice ao yo.length co, .int .i64 f, .int .i64 l, .slice a z.length c], .int .u64 ((bitsOf gs : Nat) : Int)] w fun e w' => (∃ xa xc, e = .returned (.agg #[.slice xa (partI yo gs).length xc, .int .i64 f, .int .i64 l]) ∧ GridR w' xa f (partZ yo z gs)) ∧ Below w.heap.size w w' :=
  (gridWithinO_any h f l ao yo co a z c gs w hr hok hgr).mono (by
    rintro e w' ⟨⟨xa, xc, rfl, hg⟩, hb⟩
    exact ⟨⟨xa, xc, rfl, hg.grid⟩, hb⟩)
end Go.Proofs.Ytnebkhelobpkpaa

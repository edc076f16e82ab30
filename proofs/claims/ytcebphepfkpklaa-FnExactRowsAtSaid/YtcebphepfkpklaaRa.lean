/- RowsAt of the program. -/
import Derived.Test.YtcebphepfkpklaaGm
import Derived.Deep.AppendLies
import Derived.Deep.RegionLaw
import Derived.Deep.DrawnRows
namespace Go.Proofs.Ytcebphepfkpklaa
open Go.RowKit Go.Deep
set_option linter.unusedVariables false
attribute [local go_sem ↓] Go.wp_at_zero Go.wp_at_succ

/-- Indices of rows. -/
def RowsIn (z : List (List Int)) (rs : List Int) : Prop := rs.length ≤ 20 ∧ ∀ i, i < rs.length → 0 ≤ nth rs i ∧ nth rs i < z.length
def rowsOf (z : List (List Int)) (rs : List Int) : List (List Int) := rs.map fun r => nthL z r.toNat
theorem rowsOf_len (z : List (List Int)) (rs : List Int) : (rowsOf z rs).length = rs.length := by simp [rowsOf]
theorem rowsOf_nth (z : List (List Int)) (rs : List Int) {i : Nat} (h : i < rs.length) : nthL (rowsOf z rs) i = nthL z (nth rs i).toNat := by
  rw [nthL_lt (by rw [rowsOf_len]; exact h), nth_lt h]; simp [rowsOf]
noncomputable def raCode (p c : Int) (z : List (List Int)) (rs : List Int) : Int := if tell (MatOk p c z) = true then (if tell (RowsIn z rs) = true then 0 else 2) else 1
noncomputable def raP (p c : Int) (z : List (List Int)) (rs : List Int) : Int := if tell (MatOk p c z) = true then (if tell (RowsIn z rs) = true then p else 0) else 0
noncomputable def raC (p c : Int) (z : List (List Int)) (rs : List Int) : Int := if tell (MatOk p c z) = true then (if tell (RowsIn z rs) = true then c else 0) else 0
noncomputable def raZ (p c : Int) (z : List (List Int)) (rs : List Int) : List (List Int) := if tell (MatOk p c z) = true then (if tell (RowsIn z rs) = true then rowsOf z rs else []) else []
theorem ra_yes {p c : Int} {z : List (List Int)} {rs : List Int} (h1 : MatOk p c z) (h2 : RowsIn z rs) : raCode p c z rs = 0 ∧ raP p c z rs = p ∧ raC p c z rs = c ∧ raZ p c z rs = rowsOf z rs := by
  unfold raCode raP raC raZ; rw [tell_true h1, tell_true h2]; exact ⟨rfl, rfl, rfl, rfl⟩
theorem ra_no {p c : Int} {z : List (List Int)} {rs : List Int} (h1 : MatOk p c z) (h2 : ¬ RowsIn z rs) : raCode p c z rs = 2 ∧ raP p c z rs = 0 ∧ raC p c z rs = 0 ∧ raZ p c z rs = [] := by
  unfold raCode raP raC raZ; rw [tell_true h1, tell_false h2]; exact ⟨rfl, rfl, rfl, rfl⟩
theorem ra_bad {p c : Int} {z : List (List Int)} {rs : List Int} (h1 : ¬ MatOk p c z) : raCode p c z rs = 1 ∧ raP p c z rs = 0 ∧ raC p c z rs = 0 ∧ raZ p c z rs = [] := by
  unfold raCode raP raC raZ; rw [tell_false h1]; exact ⟨rfl, rfl, rfl, rfl⟩
theorem mat_rows {p c : Int} {z : List (List Int)} (h : MatOk p c z) {i : Nat} (hi : i < z.length) : (nthL z i).length ≤ 12 := by have := (h.2.2.2 i hi).1; have := h.2.1.2; omega
theorem mat_small {p c : Int} {z : List (List Int)} (h : MatOk p c z) : Small2 z := ⟨by have := h.2.2.1; omega, fun r hr => by have := mat_rows h hr; omega⟩
theorem rowsOf_small {p c : Int} {z : List (List Int)} {rs : List Int} (h : MatOk p c z) (h2 : RowsIn z rs) : Small2 (rowsOf z rs) := by
  refine ⟨by rw [rowsOf_len]; have := h2.1; omega, fun r hr => ?_⟩
  rw [rowsOf_len] at hr
  rw [rowsOf_nth z rs hr]
  have := h2.2 r hr
  have := mat_rows h (i := (nth rs r).toNat) (by omega)
  omega
theorem ra_small (p c : Int) (z : List (List Int)) (rs : List Int) : Small2 (raZ p c z rs) := by
  unfold raZ
  split
  · next q =>
    split
    · next q2 => exact rowsOf_small (of_tell q) (of_tell q2)
    · exact ⟨by simp, fun r hr => absurd hr (Nat.not_lt_zero _)⟩
  · exact ⟨by simp, fun r hr => absurd hr (Nat.not_lt_zero _)⟩

set_option maxRecDepth 100000 in
set_option maxHeartbeats 4000000 in
theorem implRa_any (p c : Int) (a : Option Addr) (z : List (List Int)) (ca : Nat) (ar : Option Addr) (rs : List Int) (cr : Nat) (w : World) (hr : Rows2 w a z) (hl : Lens z) (hi : Ints w ar rs) (hlr : rs.length ≤ 9223372036854775807) :
    Calls Try.prog 19 #[.agg #[.int .i64 p, .int .i64 c, .slice a z.length ca], .slice ar rs.length cr] w (GivesMY w (raP p c z rs) (raC p c z rs) (raZ p c z rs) (raCode p c z rs)) := by
  have HR := Lib.hid hr
  have HL := Lib.hid hl
  have HI := Lib.hid hi
  clear hr hl hi
  go_enter Try.func19, Try.ntmps19
  go_wp2_with fail
  have hb2 := ((Below.refl w.heap.size w).alloc (Nat.le_refl _) (.cells #[.int .i64 p, .int .i64 c, .slice a z.length ca] 27)).alloc (by simp) (.cells #[.int .i64 0, .int .i64 0, .slice none 0 0] 27)
  have hx : Boxes ((w.alloc (.cells #[.int .i64 p, .int .i64 c, .slice a z.length ca] 27)).alloc (.cells #[.int .i64 0, .int .i64 0, .slice none 0 0] 27)) w.heap.size 27 #[.int .i64 p, .int .i64 c, .slice a z.length ca] := Boxes.step (World.alloc_heap_new w _) ((Below.refl _ _).alloc (Nat.le_refl _) (.cells #[.int .i64 0, .int .i64 0, .slice none 0 0] 27))
  have hy : Boxes ((w.alloc (.cells #[.int .i64 p, .int .i64 c, .slice a z.length ca] 27)).alloc (.cells #[.int .i64 0, .int .i64 0, .slice none 0 0] 27)) (w.heap.size + 1) 27 #[.int .i64 0, .int .i64 0, .slice none 0 0] := by
    have : Boxes ((w.alloc (.cells #[.int .i64 p, .int .i64 c, .slice a z.length ca] 27)).alloc (.cells #[.int .i64 0, .int .i64 0, .slice none 0 0] 27)) (w.alloc (.cells #[.int .i64 p, .int .i64 c, .slice a z.length ca] 27)).heap.size 27 #[.int .i64 0, .int .i64 0, .slice none 0 0] := World.alloc_heap_new _ _
    simp only [World.size_alloc] at this
    exact this
  refine (implVm_any p c a z ca _ (HR.out.below hb2 (Nat.le_refl _)) HL.out).mono ?_
  have hs2 : ((w.alloc (.cells #[.int .i64 p, .int .i64 c, .slice a z.length ca] 27)).alloc (.cells #[.int .i64 0, .int .i64 0, .slice none 0 0] 27)).heap.size = w.heap.size + 2 := by simp
  generalize (w.alloc (.cells #[.int .i64 p, .int .i64 c, .slice a z.length ca] 27)).alloc (.cells #[.int .i64 0, .int .i64 0, .slice none 0 0] 27) = w2 at *
  rintro e w3 ⟨rfl, hb3⟩
  have hsz3 : w.heap.size + 2 ≤ w3.heap.size := by have := hb3.size; omega
  have hxm := hx.step hb3
  have hxr := hy.step hb3
  have hb := hb2.trans (hb3.mono (by omega))
  have e0 := hxr.m0
  have e1 := hxr.m1
  have e2 := hxr.m2
  have f0 := hxr.frozen 0
  have f1 := hxr.frozen 1
  have f2 := hxr.frozen 2
  have d0 := hxm.m0
  have d1 := hxm.m1
  have d2 := hxm.m2
  have hlt := hxr.lt
  have hlm := hxm.lt
  have HXM := Lib.hid hxm
  have HXR := Lib.hid hxr
  have HB := Lib.hid hb
  clear hb2 hx hy hs2 hb3 hxm hxr hb
  by_cases hm : MatOk p c z
  case neg =>
    have HT := Lib.hid (tell_false hm)
    have HC := Lib.hid (ra_bad (rs := rs) hm)
    clear hm
    rw [HT.out]
    go_wp2_with fail
    refine bodyPost_ret (v := .tuple #[.agg #[.int .i64 0, .int .i64 0, .slice none 0 0], .int .i64 1]) (by simp [results, Try.results19, go_sem, e0, e1, e2]) rfl ⟨⟨.slice none 0 0, [], by rw [HC.out.1, HC.out.2.1, HC.out.2.2.1], by rw [HC.out.2.2.2]; exact Own.nil _ _⟩, (((HB.out.setCell (p := ⟨w.heap.size + 1, 0, none⟩) (by show w.heap.size ≤ w.heap.size + 1; omega) _).setCell (p := ⟨w.heap.size + 1, 1, none⟩) (by show w.heap.size ≤ w.heap.size + 1; omega) _).setCell (p := ⟨w.heap.size + 1, 2, none⟩) (by show w.heap.size ≤ w.heap.size + 1; omega) _)⟩
  have HT := Lib.hid (tell_true hm)
  have HM := Lib.hid hm
  have HS := Lib.hid (mat_small hm)
  clear hm
  rw [HT.out]
  by_cases h20 : (20 : Int) < (rs.length : Int)
  · have HC := Lib.hid (ra_no HM.out (rs := rs) (fun q => by have := q.1; omega))
    go_wp2_with fail
    refine bodyPost_ret (v := .tuple #[.agg #[.int .i64 0, .int .i64 0, .slice none 0 0], .int .i64 2]) (by simp [results, Try.results19, go_sem, e0, e1, e2]) rfl ⟨⟨.slice none 0 0, [], by rw [HC.out.1, HC.out.2.1, HC.out.2.2.1], by rw [HC.out.2.2.2]; exact Own.nil _ _⟩, (((HB.out.setCell (p := ⟨w.heap.size + 1, 0, none⟩) (by show w.heap.size ≤ w.heap.size + 1; omega) _).setCell (p := ⟨w.heap.size + 1, 1, none⟩) (by show w.heap.size ≤ w.heap.size + 1; omega) _).setCell (p := ⟨w.heap.size + 1, 2, none⟩) (by show w.heap.size ≤ w.heap.size + 1; omega) _)⟩
  go_wp2_with fail
  refine (gridOf_any p c a z ca w3 (HR.out.below HB.out (Nat.le_refl _)) HS.out).mono ?_
  rintro e w4 ⟨⟨v, us, rfl, hog⟩, hb4⟩
  obtain ⟨va, vc, rfl⟩ := hog.form
  have hsz4 : w3.heap.size ≤ w4.heap.size := hb4.size
  have HOG := Lib.hid hog
  have HB4 := Lib.hid hb4
  clear hog hb4
  go_wp2_with fail
  refine (zeros0_any p c _).mono ?_
  have hbg := (Below.refl w4.heap.size w4).alloc (Nat.le_refl _) (.cells #[.slice va z.length vc, .int .i64 p, .int .i64 c] 72)
  have HG := Lib.hid (show Boxes (w4.alloc (.cells #[.slice va z.length vc, .int .i64 p, .int .i64 c] 72)) w4.heap.size 72 #[.slice va z.length vc, .int .i64 p, .int .i64 c] from World.alloc_heap_new _ _)
  have HW5 := Lib.hid (show (w4.alloc (.cells #[.slice va z.length vc, .int .i64 p, .int .i64 c] 72)).heap.size = w4.heap.size + 1 by simp)
  generalize w4.alloc (.cells #[.slice va z.length vc, .int .i64 p, .int .i64 c] 72) = w5 at *
  rintro e w6 ⟨rfl, hb6⟩
  have hw5 : w5.heap.size = w4.heap.size + 1 := HW5.out
  have hb46 := hbg.trans (hb6.mono hbg.size)
  have hb36 := HB4.out.trans (hb46.mono hsz4)
  have hbh := (Below.refl w6.heap.size w6).alloc (Nat.le_refl _) (.cells #[.slice none 0 0, .int .i64 p, .int .i64 c] 72)
  have HH := Lib.hid (show Boxes (w6.alloc (.cells #[.slice none 0 0, .int .i64 p, .int .i64 c] 72)) w6.heap.size 72 #[.slice none 0 0, .int .i64 p, .int .i64 c] from World.alloc_heap_new _ _)
  have hsz6 : w4.heap.size + 1 ≤ w6.heap.size := by have := hb6.size; omega
  have HGR := Lib.hid (show GridR w6 va p z from (HOG.out.gridv).2.step hb46)
  have HBH := Lib.hid hbh
  have HGB := Lib.hid (HG.out.step hb6)
  have HXM7 := Lib.hid (HXM.out.step hb36)
  have HXR7 := Lib.hid (HXR.out.step hb36)
  have HB7 := Lib.hid (HB.out.trans (hb36.mono (by omega)))
  go_wp2_with fail
  have hs7 : (w6.alloc (.cells #[.slice none 0 0, .int .i64 p, .int .i64 c] 72)).heap.size = w6.heap.size + 1 := by simp
  generalize w6.alloc (.cells #[.slice none 0 0, .int .i64 p, .int .i64 c] 72) = w7 at *
  have HS7 := Lib.hid hs7
  have h4lt : w4.heap.size < w6.heap.size := by omega
  have h3lt : w.heap.size + 2 ≤ w6.heap.size := by omega
  generalize hh6 : w6.heap.size = hh at *
  have HH6 := Lib.hid hh6
  generalize w4.heap.size = gg at *
  clear hh6 hb6 hb46 hb36 hbh hbg HG HB HB4 HXM HXR hw5 HW5 hs7 hsz6 hsz4 HOG e0 e1 e2 f0 f1 f2 d0 d1 d2 hlt hlm hsz3
  obtain ⟨i1, ji, jz0, jz1, jz2⟩ := info_parts Try.infoNums
  go_loopw [9, 27] (fun q9 i wr => ∃ (k : Nat) (xa : Option Addr) (xc : Nat) (xs : List Value), k ≤ rs.length ∧ i = .int .i64 k ∧ Boxes wr hh 72 #[.slice xa k xc, .int .i64 p, .int .i64 c] ∧ wr.ownsRow (hh + 1) 75 1 (.slice xa k xc) k xs ∧ (∀ j, j < k → (0 ≤ nth rs j ∧ nth rs j < z.length) ∧ ∃ ai ci, xs[j]? = some (.slice ai (nthL z (nth rs j).toNat).length ci) ∧ Nums w6 ai p (nthL z (nth rs j).toNat)) ∧ Below hh w6 wr)
    (fun _ i _ => rs.length - (intOf i).toNat)
  case atStart => exact ⟨0, none, 0, [], Nat.zero_le _, rfl, HH.out, World.ownsRow_nil _ _ _ _, fun j hj => absurd hj (Nat.not_lt_zero _), HBH.out⟩
  case round =>
    obtain ⟨k, xa, xc, xs, hk, rfl, hx, hown, hxs, hb⟩ := hrel
    have HX := Lib.hid hx
    have HO := Lib.hid hown
    have HXS := Lib.hid hxs
    have HBL := Lib.hid hb
    have hszr : hh + 1 ≤ wr.heap.size := hx.lt
    have c0 := hx.m0
    have c1 := hx.m1
    have c2 := hx.m2
    have k0 := hx.frozen 0
    have bg0 := (hb.cell (p := ⟨gg, 0, none⟩) (show gg < hh from h4lt)).trans HGB.out.m0
    have bm2 := (hb.cell (p := ⟨w.heap.size, 2, none⟩) (show w.heap.size < hh by omega)).trans HXM7.out.m2
    have hlh := hx.lt
    have r0 := (hb.cell (p := ⟨w.heap.size + 1, 0, none⟩) (show w.heap.size + 1 < hh by omega)).trans HXR7.out.m0
    have r1 := (hb.cell (p := ⟨w.heap.size + 1, 1, none⟩) (show w.heap.size + 1 < hh by omega)).trans HXR7.out.m1
    have r2 := (hb.cell (p := ⟨w.heap.size + 1, 2, none⟩) (show w.heap.size + 1 < hh by omega)).trans HXR7.out.m2
    have s0 := (hb.frozen (p := ⟨w.heap.size + 1, 0, none⟩) (show w.heap.size + 1 < hh by omega)).trans (HXR7.out.frozen 0)
    have s1 := (hb.frozen (p := ⟨w.heap.size + 1, 1, none⟩) (show w.heap.size + 1 < hh by omega)).trans (HXR7.out.frozen 1)
    have s2 := (hb.frozen (p := ⟨w.heap.size + 1, 2, none⟩) (show w.heap.size + 1 < hh by omega)).trans (HXR7.out.frozen 2)
    have HBW := Lib.hid (HB7.out.trans (hb.mono (by omega)))
    clear hx hown hxs hb
    by_cases hlt : k < rs.length
    · rcases HI.out.below HBW.out (Nat.le_refl _) with h | ⟨b, o, rfl, hc⟩
      · rw [h] at hlt; exact absurd hlt (Nat.not_lt_zero _)
      have hcell := hc k hlt
      have hi0 : (k : Int) < (rs.length : Int) := by omega
      clear hc
      by_cases hin : 0 ≤ nth rs k ∧ nth rs k < z.length
      case neg =>
        have HC := Lib.hid (ra_no HM.out (rs := rs) (fun q => hin (q.2 k hlt)))
        by_cases hneg : nth rs k < 0
        · go_wp2_with fail
          refine bodyPost_ret (v := .tuple #[.agg #[.int .i64 0, .int .i64 0, .slice none 0 0], .int .i64 2]) (by simp [results, Try.results19, go_sem, r0, r1, r2]) rfl ⟨⟨.slice none 0 0, [], by rw [HC.out.1, HC.out.2.1, HC.out.2.2.1], by rw [HC.out.2.2.2]; exact Own.nil _ _⟩, (((HBW.out.setCell (p := ⟨w.heap.size + 1, 0, none⟩) (by show w.heap.size ≤ w.heap.size + 1; omega) _).setCell (p := ⟨w.heap.size + 1, 1, none⟩) (by show w.heap.size ≤ w.heap.size + 1; omega) _).setCell (p := ⟨w.heap.size + 1, 2, none⟩) (by show w.heap.size ≤ w.heap.size + 1; omega) _)⟩
        · have hge : (z.length : Int) ≤ nth rs k := by omega
          go_wp2_with fail
          refine bodyPost_ret (v := .tuple #[.agg #[.int .i64 0, .int .i64 0, .slice none 0 0], .int .i64 2]) (by simp [results, Try.results19, go_sem, r0, r1, r2]) rfl ⟨⟨.slice none 0 0, [], by rw [HC.out.1, HC.out.2.1, HC.out.2.2.1], by rw [HC.out.2.2.2]; exact Own.nil _ _⟩, (((HBW.out.setCell (p := ⟨w.heap.size + 1, 0, none⟩) (by show w.heap.size ≤ w.heap.size + 1; omega) _).setCell (p := ⟨w.heap.size + 1, 1, none⟩) (by show w.heap.size ≤ w.heap.size + 1; omega) _).setCell (p := ⟨w.heap.size + 1, 2, none⟩) (by show w.heap.size ≤ w.heap.size + 1; omega) _)⟩
      obtain ⟨r, hr⟩ : ∃ r : Nat, nth rs k = (r : Int) := ⟨(nth rs k).toNat, by omega⟩
      have HIN := Lib.hid hin
      have HRR := Lib.hid hr
      rw [hr] at hcell hin
      have hrz : r < z.length := by omega
      have hrz0 : (r : Int) < (z.length : Int) := by omega
      have hr0 : (0 : Int) ≤ (r : Int) := by omega
      clear hr hin
      rcases HGR.out with h | ⟨gb, rfl, hgc⟩
      · rw [h] at hrz; exact absurd hrz (Nat.not_lt_zero _)
      obtain ⟨ai, ci, hrow, hnums⟩ := hgc r hrz
      have HNU := Lib.hid hnums
      have hgl : gb < hh := by have := World.block_lt_of_cell? _ _ hrow; have := HH6.out; simp at *; omega
      have hrw := (HBL.out.cell (p := ⟨gb, r, none⟩) hgl).trans hrow
      have HX9 := Lib.hid (show ∀ j, j < k + 1 → (0 ≤ nth rs j ∧ nth rs j < z.length) ∧ ∃ ai' ci', (xs ++ [Value.slice ai (nthL z r).length ci])[j]? = some (.slice ai' (nthL z (nth rs j).toNat).length ci') ∧ Nums w6 ai' p (nthL z (nth rs j).toNat) from fun j hj => by
        have hxl : xs.length = k := by have := HO.out.1; omega
        by_cases e : j = k
        · subst e
          refine ⟨HIN.out, ai, ci, ?_, ?_⟩
          · rw [List.getElem?_append_right (by omega), hxl, Nat.sub_self, HRR.out]; simp
          · rw [HRR.out]; simpa using HNU.out
        · obtain ⟨h1, a1, c1, h2, h3⟩ := HXS.out j (by omega)
          exact ⟨h1, a1, c1, by rw [List.getElem?_append_left (by omega)]; exact h2, h3⟩)
      clear hgc hnums hrow
      go_wp2_with fail
      go_region_law ((refine step_append_lies _ (by rfl) _ _ 69 (by rfl) (hh + 1) 75 i1 (.slice none 0 0) 1 24 Try.underlying69 ji jz0 jz1 jz2 (by rfl) (by decide) (.slice xa k xc) k xs (by rfl) (by first | exact World.ownsRow.alloc HO.out _ | exact row_step (World.ownsRow.alloc HO.out _) (drew_step _) | exact World.ownsRow.alloc (row_step HO.out (drew_step _)) _) ⟨wr.heap.size, 0, none⟩ 1 1 [.slice ai (nthL z r).length ci] (by rfl) (by rfl) (by first | exact cell_one_new _ _ _ | (intro j u hj; exact cell_one_new wr _ _ j u hj)) (by simp [Value.oneCell']) (by decide) (by unfold maxLen; omega) (by omega) (by simp; omega) _ rfl ?_; intro g cap w8 hown8 hgrow8 hat8 hlt8; have hx8 := Boxes.grown (Boxes.step HX.out (by first | exact (Below.refl _ _).alloc (Nat.le_refl _) _ | exact ((Below.refl _ _).alloc (Nat.le_refl _) _).drew | exact (Below.refl _ _).drew.alloc (Nat.le_refl _) _)) hgrow8 (row_ge HO.out (Nat.lt_succ_self _)); have y0 := hx8.m0; have y1 := hx8.frozen 0; have y2 := hx8.lt))
      all_goals (
        have HX8 := Lib.hid hx8
        have H8 := Lib.hid hown8
        have HB8 := Lib.hid (show Below hh w6 w8 from Below.grown (by first | exact HBL.out.alloc (by omega) _ | exact (HBL.out.alloc (by omega) _).drew | exact HBL.out.drew.alloc (by simp; omega) _) hgrow8 (by simp only [World.size_drew, World.size_alloc]; omega) (fun q hq => by have := row_lt HO.out hq; omega))
        clear hx8 hown8 hgrow8 hat8 hlt8 y0 y1
        go_wp2_with fail
        go_roundw
        case rel => exact ⟨k + 1, some ⟨g, 0, none⟩, cap, xs ++ [.slice ai (nthL z r).length ci], by omega, by go_num, HX8.out.set3 _, row_set H8.out (Nat.lt_succ_self _) _, HX9.out, HB8.out.setCell (p := ⟨hh, 0, none⟩) (Nat.le_refl _) _⟩
        case measure => simp [intOf]; omega)
    · have HE := Lib.hid (show k = rs.length by omega)
      have HIN := Lib.hid (show RowsIn z rs from ⟨by omega, fun i hi => (HXS.out i (by omega)).1⟩)
      have HC := Lib.hid (ra_yes HM.out HIN.out)
      have HRS := Lib.hid (rowsOf_small HM.out HIN.out)
      have hgr : GridR wr xa p (rowsOf z rs) := by
        by_cases h0 : rs.length = 0
        · exact .inl (List.eq_nil_of_length_eq_zero (by rw [rowsOf_len]; exact h0))
        · rcases HO.out.2 with ⟨hv, hn⟩ | ⟨g, cap, cur, hv, _⟩
          · have := HE.out; omega
          · cases hv
            refine .inr ⟨g, rfl, fun i hi => ?_⟩
            rw [rowsOf_len] at hi
            obtain ⟨_, ai, ci, h2, h3⟩ := HXS.out i (by have := HE.out; omega)
            rw [rowsOf_nth z rs hi]
            exact ⟨ai, ci, by rw [World.ownsRow.cellAt HO.out i (by have := HE.out; omega)]; exact h2, h3.below HBL.out (by have := HH6.out; omega)⟩
      have hek : k = (rowsOf z rs).length := by rw [rowsOf_len]; exact HE.out
      have HGR2 := Lib.hid hgr
      rw [hek] at c0
      clear hgr hek
      go_wp2_with fail
      refine (matrix_any p c xa (rowsOf z rs) xc wr HGR2.out HRS.out).mono ?_
      rintro e w9 ⟨⟨v9, us9, rfl, ho9⟩, hb9⟩
      obtain ⟨v9a, v9c, rfl⟩ := ho9.form
      have t0 := cell_step hb9 r0
      have t1 := cell_step hb9 r1
      have t2 := cell_step hb9 r2
      have x0 := (hb9.frozen (p := ⟨w.heap.size + 1, 0, none⟩) (show w.heap.size + 1 < wr.heap.size by omega)).trans s0
      have x1 := (hb9.frozen (p := ⟨w.heap.size + 1, 1, none⟩) (show w.heap.size + 1 < wr.heap.size by omega)).trans s1
      have x2 := (hb9.frozen (p := ⟨w.heap.size + 1, 2, none⟩) (show w.heap.size + 1 < wr.heap.size by omega)).trans s2
      have HO9 := Lib.hid ho9
      have HB9 := Lib.hid (HBW.out.trans (hb9.mono HBW.out.size))
      clear ho9 hb9 r0 r1 r2 s0 s1 s2 c0 c1 c2 k0 bg0 bm2
      go_wp2_with fail
      refine bodyPost_ret (v := .tuple #[.agg #[.int .i64 p, .int .i64 c, .slice v9a (rowsOf z rs).length v9c], .int .i64 0]) (by simp [results, Try.results19, go_sem, t0, t1, t2]) rfl ⟨⟨_, us9, by rw [HC.out.1, HC.out.2.1, HC.out.2.2.1], ?_⟩, ?_⟩
      · rw [HC.out.2.2.2]
        exact (((HO9.out.setCell2 (p := ⟨w.heap.size + 1, 0, none⟩) (by show w.heap.size + 1 < wr.heap.size; omega) _).setCell2 (p := ⟨w.heap.size + 1, 1, none⟩) (by show w.heap.size + 1 < wr.heap.size; omega) _).setCell2 (p := ⟨w.heap.size + 1, 2, none⟩) (by show w.heap.size + 1 < wr.heap.size; omega) _).mono (by omega)
      · exact (((HB9.out.setCell (p := ⟨w.heap.size + 1, 0, none⟩) (by show w.heap.size ≤ w.heap.size + 1; omega) _).setCell (p := ⟨w.heap.size + 1, 1, none⟩) (by show w.heap.size ≤ w.heap.size + 1; omega) _).setCell (p := ⟨w.heap.size + 1, 2, none⟩) (by show w.heap.size ≤ w.heap.size + 1; omega) _)
end Go.Proofs.Ytcebphepfkpklaa

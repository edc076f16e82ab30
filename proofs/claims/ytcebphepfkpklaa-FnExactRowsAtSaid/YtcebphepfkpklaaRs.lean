/- RowsAt of the model. -/
import Derived.Test.YtcebphepfkpklaaRa
import Derived.Test.YtcebphepfkpklaaOw
import Derived.BigQuiet
namespace Go.Proofs.Ytcebphepfkpklaa
open Go.RowKit Go.Deep
set_option linter.unusedVariables false
attribute [local go_sem ↓] Go.wp_at_zero Go.wp_at_succ

theorem Boxes.set3c {W : World} {B : Nat} {t : TypeId} {u0 u1 u2 : Value} (h : Boxes W B t #[u0, u1, u2]) (v : Value) : Boxes (W.setCell ⟨B, 2, none⟩ v) B t #[u0, u1, v] := by
  unfold Boxes at h ⊢
  simp [World.setCell, Array.getElem?_modify, h]

set_option maxRecDepth 100000 in
set_option maxHeartbeats 4000000 in
theorem specRa_any (p c : Int) (a : Option Addr) (z : List (List Int)) (ca : Nat) (ar : Option Addr) (rs : List Int) (cr : Nat) (w : World) (hr : Rows2 w a z) (hl : Lens z) (hi : Ints w ar rs) (hlr : rs.length ≤ 9223372036854775807) :
    Calls Try.prog 16 #[.agg #[.int .i64 p, .int .i64 c, .slice a z.length ca], .slice ar rs.length cr] w (GivesMX w (raP p c z rs) (raC p c z rs) (raZ p c z rs) (raCode p c z rs)) := by
  have HR := Lib.hid hr
  have HL := Lib.hid hl
  have HI := Lib.hid hi
  clear hr hl hi
  go_enter Try.func16, Try.ntmps16
  go_wp2_with fail
  have hb2 := ((Below.refl w.heap.size w).alloc (Nat.le_refl _) (.cells #[.int .i64 p, .int .i64 c, .slice a z.length ca] 27)).alloc (by simp) (.cells #[.int .i64 0, .int .i64 0, .slice none 0 0] 27)
  have hx : Boxes ((w.alloc (.cells #[.int .i64 p, .int .i64 c, .slice a z.length ca] 27)).alloc (.cells #[.int .i64 0, .int .i64 0, .slice none 0 0] 27)) w.heap.size 27 #[.int .i64 p, .int .i64 c, .slice a z.length ca] := Boxes.step (World.alloc_heap_new w _) ((Below.refl _ _).alloc (Nat.le_refl _) (.cells #[.int .i64 0, .int .i64 0, .slice none 0 0] 27))
  have hy : Boxes ((w.alloc (.cells #[.int .i64 p, .int .i64 c, .slice a z.length ca] 27)).alloc (.cells #[.int .i64 0, .int .i64 0, .slice none 0 0] 27)) (w.heap.size + 1) 27 #[.int .i64 0, .int .i64 0, .slice none 0 0] := by
    have : Boxes ((w.alloc (.cells #[.int .i64 p, .int .i64 c, .slice a z.length ca] 27)).alloc (.cells #[.int .i64 0, .int .i64 0, .slice none 0 0] 27)) (w.alloc (.cells #[.int .i64 p, .int .i64 c, .slice a z.length ca] 27)).heap.size 27 #[.int .i64 0, .int .i64 0, .slice none 0 0] := World.alloc_heap_new _ _
    simp only [World.size_alloc] at this
    exact this
  have hr2 := HR.out.below hb2 (Nat.le_refl _)
  refine (l03Ok_any w.heap.size p c a z ca _ hx hr2 HL.out).mono ?_
  have hs2 : ((w.alloc (.cells #[.int .i64 p, .int .i64 c, .slice a z.length ca] 27)).alloc (.cells #[.int .i64 0, .int .i64 0, .slice none 0 0] 27)).heap.size = w.heap.size + 2 := by simp
  generalize (w.alloc (.cells #[.int .i64 p, .int .i64 c, .slice a z.length ca] 27)).alloc (.cells #[.int .i64 0, .int .i64 0, .slice none 0 0] 27) = w2 at *
  rintro e w3 ⟨rfl, hq⟩
  have hb3 := quiet_below hq
  have hsz3 : w.heap.size + 2 ≤ w3.heap.size := by have := hb3.size; omega
  have hxm := hx.step hb3
  have hxr := hy.step hb3
  have hb := hb2.trans (hb3.mono (by omega))
  have e0 := hxr.m0
  have e1 := hxr.m1
  have e2 := hxr.m2
  have f0 := hxr.frozen 0
  have f1 := hxr.frozen 1
  have f2 := hxr.frozen 2
  have d0 := hxm.m0
  have d1 := hxm.m1
  have hlt := hxr.lt
  have hlm := hxm.lt
  have HXM := Lib.hid hxm
  have HXR := Lib.hid hxr
  have HB := Lib.hid hb
  have HR3 := Lib.hid (hr2.step hb3)
  have HI3 := Lib.hid (HI.out.below hb (Nat.le_refl _))
  clear hb2 hx hy hs2 hb3 hxm hxr hb hr2 hq HR HI
  by_cases hm : MatOk p c z
  case neg =>
    have HT := Lib.hid (tell_false hm)
    have HC := Lib.hid (ra_bad (rs := rs) hm)
    clear hm
    rw [HT.out]
    go_wp2_with fail
    refine bodyPost_ret (v := .tuple #[.agg #[.int .i64 0, .int .i64 0, .slice none 0 0], .int .i64 1]) (by simp [results, Try.results16, go_sem, e0, e1, e2]) rfl ⟨⟨none, 0, by rw [HC.out.1, HC.out.2.1, HC.out.2.2.1, HC.out.2.2.2]; rfl, by rw [HC.out.2.2.2]; exact .inl rfl⟩, (((HB.out.setCell (p := ⟨w.heap.size + 1, 0, none⟩) (by show w.heap.size ≤ w.heap.size + 1; omega) _).setCell (p := ⟨w.heap.size + 1, 1, none⟩) (by show w.heap.size ≤ w.heap.size + 1; omega) _).setCell (p := ⟨w.heap.size + 1, 2, none⟩) (by show w.heap.size ≤ w.heap.size + 1; omega) _)⟩
  have HT := Lib.hid (tell_true hm)
  have HM := Lib.hid hm
  have HS := Lib.hid (mat_small hm)
  have hz20 : z.length ≤ 20 := hm.2.2.1
  clear hm
  rw [HT.out]
  go_wp2_with fail
  have hbo := (Below.refl w3.heap.size w3).alloc (Nat.le_refl _) (.cells #[.int .i64 p, .int .i64 c, .slice none 0 0] 27)
  have HO := Lib.hid (show Boxes (w3.alloc (.cells #[.int .i64 p, .int .i64 c, .slice none 0 0] 27)) w3.heap.size 27 #[.int .i64 p, .int .i64 c, .slice none 0 0] from World.alloc_heap_new _ _)
  generalize w3.alloc (.cells #[.int .i64 p, .int .i64 c, .slice none 0 0] 27) = w4 at *
  have HBO := Lib.hid hbo
  clear hbo
  generalize hoo3 : w3.heap.size = oo at *
  have HO3 := Lib.hid hoo3
  clear hoo3
  obtain ⟨i1, ji, jz0, jz1, jz2⟩ := info_parts Try.infoInt64S
  have HWR := Lib.hid (show IntKind.i64.wrap ((z.length : Int) - 1) = (z.length : Int) - 1 from IntWalk.i64_in _ (by omega))
  clear e0 e1 e2 f0 f1 f2 d0 d1 hlt hlm
  go_loopw [7] (fun i wr => ∃ (k : Nat) (va : Option Addr) (vc : Nat) (us : List Value), k ≤ rs.length ∧ i = .int .i64 k ∧ Boxes wr oo 27 #[.int .i64 p, .int .i64 c, .slice va k vc] ∧ Own wr (oo + 1) (.slice va k vc) us ((rowsOf z rs).take k) ∧ (0 < k → rs.length ≤ 20) ∧ (∀ j, j < k → 0 ≤ nth rs j ∧ nth rs j < z.length) ∧ Below oo w3 wr)
    (fun i _ => rs.length - (intOf i).toNat)
  case atStart => exact ⟨0, none, 0, [], Nat.zero_le _, rfl, HO.out, Own.nil _ _, fun h => absurd h (by omega), fun j hj => absurd hj (Nat.not_lt_zero _), HBO.out⟩
  case round =>
    obtain ⟨k, va, vc, us, hk, rfl, hx, hown, hk20, hall, hb⟩ := hrel
    have HX := Lib.hid hx
    have HOW := Lib.hid hown
    have HK := Lib.hid hk20
    have HALL := Lib.hid hall
    have HBL := Lib.hid hb
    have hoo : oo ≤ wr.heap.size := Nat.le_of_lt hx.lt
    have hoo1 : oo + 1 ≤ wr.heap.size := hx.lt
    have hw3 : w.heap.size + 1 < oo := by omega
    have c0 := hx.m0
    have c1 := hx.m1
    have c2 := hx.m2
    have k2 := hx.frozen 2
    have bm2 := (hb.cell (p := ⟨w.heap.size, 2, none⟩) (show w.heap.size < oo by omega)).trans HXM.out.m2
    have r0 := (hb.cell (p := ⟨w.heap.size + 1, 0, none⟩) hw3).trans HXR.out.m0
    have r1 := (hb.cell (p := ⟨w.heap.size + 1, 1, none⟩) hw3).trans HXR.out.m1
    have r2 := (hb.cell (p := ⟨w.heap.size + 1, 2, none⟩) hw3).trans HXR.out.m2
    have s0 := (hb.frozen (p := ⟨w.heap.size + 1, 0, none⟩) hw3).trans (HXR.out.frozen 0)
    have s1 := (hb.frozen (p := ⟨w.heap.size + 1, 1, none⟩) hw3).trans (HXR.out.frozen 1)
    have s2 := (hb.frozen (p := ⟨w.heap.size + 1, 2, none⟩) hw3).trans (HXR.out.frozen 2)
    have HBW := Lib.hid (HB.out.trans (hb.mono (by omega)))
    clear hx hown hk20 hall hb
    by_cases hlt : k < rs.length
    · rcases HI3.out.below HBL.out (Nat.le_of_eq HO3.out) with h | ⟨b, o, rfl, hc⟩
      · rw [h] at hlt; exact absurd hlt (Nat.not_lt_zero _)
      have hcell := hc k hlt
      have hi0 : (k : Int) < (rs.length : Int) := by omega
      clear hc
      by_cases h20 : (20 : Int) < (rs.length : Int)
      · have t1 := decide_eq_true h20
        have HC := Lib.hid (ra_no HM.out (rs := rs) (fun q => by have := q.1; omega))
        go_wp2_with fail
        go_quiet (fail)
        go_wp2_with fail
        refine bodyPost_ret (v := .tuple #[.agg #[.int .i64 0, .int .i64 0, .slice none 0 0], .int .i64 2]) (by simp [results, Try.results16, go_sem, r0, r1, r2]) rfl ⟨⟨none, 0, by rw [HC.out.1, HC.out.2.1, HC.out.2.2.1, HC.out.2.2.2]; rfl, by rw [HC.out.2.2.2]; exact .inl rfl⟩, ((((below_drewN HBW.out _).setCell (p := ⟨w.heap.size + 1, 0, none⟩) (by show w.heap.size ≤ w.heap.size + 1; omega) _).setCell (p := ⟨w.heap.size + 1, 1, none⟩) (by show w.heap.size ≤ w.heap.size + 1; omega) _).setCell (p := ⟨w.heap.size + 1, 2, none⟩) (by show w.heap.size ≤ w.heap.size + 1; omega) _)⟩
      have t1 := decide_eq_false h20
      by_cases hin : 0 ≤ nth rs k ∧ nth rs k < z.length
      case neg =>
        have t6 := Lib.hid (show (decide (0 ≤ nth rs k) && decide (nth rs k ≤ (z.length : Int) - 1)) = false by by_cases q1 : 0 ≤ nth rs k <;> by_cases q2 : nth rs k ≤ (z.length : Int) - 1 <;> simp [q1, q2] <;> omega)
        have HC := Lib.hid (ra_no HM.out (rs := rs) (fun q => hin (q.2 k hlt)))
        clear hin
        go_wp2_with fail
        go_quiet ((go_at_call 55; refine Calls.quiet_of (v := .bool false) ?_; rw [HWR.out]; refine (l00In_val _ 0 _ false _ t6.out).mono ?_; rintro e w9 ⟨rfl, rfl⟩; exact ⟨rfl, Quiet.refl _⟩))
        go_wp2_with fail
        refine bodyPost_ret (v := .tuple #[.agg #[.int .i64 0, .int .i64 0, .slice none 0 0], .int .i64 2]) (by simp [results, Try.results16, go_sem, r0, r1, r2]) rfl ⟨⟨none, 0, by rw [HC.out.1, HC.out.2.1, HC.out.2.2.1, HC.out.2.2.2]; rfl, by rw [HC.out.2.2.2]; exact .inl rfl⟩, ((((below_drewN HBW.out _).setCell (p := ⟨w.heap.size + 1, 0, none⟩) (by show w.heap.size ≤ w.heap.size + 1; omega) _).setCell (p := ⟨w.heap.size + 1, 1, none⟩) (by show w.heap.size ≤ w.heap.size + 1; omega) _).setCell (p := ⟨w.heap.size + 1, 2, none⟩) (by show w.heap.size ≤ w.heap.size + 1; omega) _)⟩
      have t6 := Lib.hid (show (decide (0 ≤ nth rs k) && decide (nth rs k ≤ (z.length : Int) - 1)) = true by simp; omega)
      obtain ⟨r, hr⟩ : ∃ r : Nat, nth rs k = (r : Int) := ⟨(nth rs k).toNat, by omega⟩
      have HIN := Lib.hid hin
      have HRR := Lib.hid hr
      rw [hr] at hcell hin t6
      have hrz : r < z.length := by omega
      have hrz0 : (r : Int) < (z.length : Int) := by omega
      have hr0 : (0 : Int) ≤ (r : Int) := by omega
      clear hr hin
      rcases HR3.out with h | ⟨zb, zo, rfl, hzc⟩
      · rw [h] at hrz; exact absurd hrz (Nat.not_lt_zero _)
      obtain ⟨ai, ci, hrow, hints⟩ := hzc r hrz
      have HI2 := Lib.hid hints
      have hzb : zb < oo := by have := World.block_lt_of_cell? _ _ hrow; have := HO3.out; simp at *; omega
      have hrw := (HBL.out.cell (p := ⟨zb, zo + r, none⟩) hzb).trans hrow
      have hrl : (nthL z r).length ≤ 1048576 := HS.out.2 r hrz
      have HT1 := Lib.hid (show (rowsOf z rs).take (k + 1) = (rowsOf z rs).take k ++ [nthL z r] by
        rw [take_snoc _ (by rw [rowsOf_len]; exact hlt), rowsOf_nth z rs hlt, HRR.out]; rfl)
      have hlk : ((rowsOf z rs).take k).length = k := by rw [List.length_take, rowsOf_len]; omega
      have HLK := Lib.hid hlk
      have hrow3 := hrow
      obtain ⟨hbo1, hcell3⟩ : b < oo ∧ w3.cell? ⟨b, o + k, none⟩ = some (.int .i64 (r : Nat)) := by
        rcases HI3.out with h | ⟨b', o', e, hc⟩
        · rw [h] at hlt; exact absurd hlt (Nat.not_lt_zero _)
        · cases e
          have h3 := hc k hlt
          rw [HRR.out] at h3
          refine ⟨?_, h3⟩
          have := World.block_lt_of_cell? _ _ h3
          have := HO3.out
          simp at *; omega
      clear hzc hints hrow hlk
      go_wp2_with fail
      go_quiet ((go_at_call 55; refine Calls.quiet_of (v := .bool true) ?_; rw [HWR.out]; refine (l00In_val _ 0 _ true _ t6.out).mono ?_; rintro e w9 ⟨rfl, rfl⟩; exact ⟨rfl, Quiet.refl _⟩))
      go_wp2_with fail
      have hqb := below_drewN (Below.refl wr.heap.size wr) nq
      have hxq := HX.out.step hqb
      have hoq := HOW.out.step hqb
      have hbq := HBL.out.trans (hqb.mono hoo)
      have hsq := hqb.size
      generalize wr.drewN nq = wq at *
      have HXQ := Lib.hid hxq
      have HOQ := Lib.hid (show Own wq (oo + 1) (.slice va k vc) us ((rowsOf z rs).take k) from hoq)
      have HBQ := Lib.hid hbq
      have hooq : oo ≤ wq.heap.size := by omega
      have hooq1 : oo + 1 ≤ wq.heap.size := by omega
      have MK := (show ∀ w' : World, Below oo wq w' → Below oo wq w' ∧ w'.cell? ⟨w.heap.size, 2, none⟩ = some (.slice (some ⟨zb, zo, none⟩) z.length ca) ∧ w'.cell? ⟨b, o + k, none⟩ = some (.int .i64 (r : Nat)) ∧ w'.cell? ⟨zb, zo + r, none⟩ = some (.slice ai (nthL z r).length ci) from fun w' h => ⟨h, ((hbq.trans h).cell (p := ⟨w.heap.size, 2, none⟩) (show w.heap.size < oo by omega)).trans HXM.out.m2, ((hbq.trans h).cell (p := ⟨b, o + k, none⟩) (show b < oo from hbo1)).trans hcell3, ((hbq.trans h).cell (p := ⟨zb, zo + r, none⟩) (show zb < oo from hzb)).trans hrow3⟩)
      have hw2 := hxq.m2
      have hwf := hxq.frozen 2
      obtain ⟨-, hq2, hq3, hq4⟩ := MK wq (Below.refl _ _)
      clear MK
      clear hqb hxq hoq hbq HX HOW HBL c0 c1 c2 k2 bm2 r0 r1 r2 s0 s1 s2 hcell hrw
      go_region_law ((first | (go_simp; go_at_call 56; refine (l00Own_any ai (nthL z r) ci _ (by first | exact HI2.out.below HBQ.out (Nat.le_of_eq HO3.out) | exact HI2.out.below HBQ.out.drew (Nat.le_of_eq HO3.out)) hrl).mono ?_; rintro e w5 ⟨⟨v5, rfl, hv5⟩, hb5⟩; obtain ⟨v5a, v5c, rfl⟩ := rowForm hv5; have HX5 := Lib.hid (show Boxes w5 oo 27 #[.int .i64 p, .int .i64 c, .slice va k vc] by first | exact HXQ.out.step hb5 | exact (HXQ.out.step (drew_step _)).step hb5); have HO5 := Lib.hid (show Own w5 (oo + 1) (.slice va k vc) us ((rowsOf z rs).take k) by first | exact HOQ.out.step hb5 | exact (HOQ.out.step (drew_step _)).step hb5); have HV5 := Lib.hid (show RowsOwn w5 (oo + 1) (us ++ [.slice v5a (nthL z r).length v5c]) ((rowsOf z rs).take k ++ [nthL z r]) by first | exact HOQ.out.rows.snoc hb5 hv5 hooq1 | exact (HOQ.out.step (drew_step _)).rows.snoc hb5 hv5 hooq1); have z2 := HX5.out.m2; have zf := HX5.out.frozen 2; have zl := HX5.out.lt; have KB := (show Below oo wq w5 from by first | exact hb5.mono hooq | exact (Below.refl oo wq).drew.trans (hb5.mono hooq))) | (refine step_append_lies _ (by rfl) _ _ 22 (by rfl) (oo + 1) 25 i1 (.slice none 0 0) 1 24 Try.underlying22 ji jz0 jz1 jz2 (by rfl) (by decide) (.slice va k vc) k us (by rfl) (by have h := World.ownsRow.alloc HO5.out.row (.cells #[.slice v5a (nthL z r).length v5c] 25); rw [HLK.out] at h; exact h) ⟨w5.heap.size, 0, none⟩ 1 1 [.slice v5a (nthL z r).length v5c] (by rfl) (by rfl) (by first | exact cell_one_new _ _ _ | (intro j u hj; exact cell_one_new w5 _ _ j u hj)) (by simp [Value.oneCell']) (by decide) (by unfold maxLen; omega) (by omega) (by simp; omega) _ rfl ?_; intro g cap w8 hown8 hgrow8 hat8 hlt8; have hx8 := Boxes.grown (Boxes.step HX5.out (by first | exact (Below.refl _ _).alloc (Nat.le_refl _) _ | exact ((Below.refl _ _).alloc (Nat.le_refl _) _).drew)) hgrow8 (row_ge HO5.out.row (Nat.lt_succ_self _)); have y0 := hx8.m2; have y1 := hx8.frozen 2; have y2 := hx8.lt; have KG := (show Below oo wq w8 from Below.grown (by first | exact KB.alloc (Nat.le_trans hooq KB.size) _ | exact (KB.alloc (Nat.le_trans hooq KB.size) _).drew) hgrow8 (by simp only [World.size_alloc]; have := KB.size; omega) (fun q hq => by have := row_lt HO5.out.row hq; omega)))))
      all_goals (
        have HX8 := Lib.hid hx8
        have H8 := Lib.hid hown8
        have HG8 := Lib.hid hgrow8
        have HK8 := Lib.hid KG
        clear hx8 hown8 hgrow8 hat8 hlt8 y0 y1 KG KB z2 zf zl hq2 hq3 hq4 hw2 hwf
        go_wp2_with fail
        go_roundw
        case rel =>
          refine ⟨k + 1, some ⟨g, 0, none⟩, cap, us ++ [.slice v5a (nthL z r).length v5c], by omega, by go_num, HX8.out.set3c _, ⟨?_, ?_⟩, fun _ => by omega, fun j hj => ?_, (HBQ.out.trans HK8.out).setCell (p := ⟨oo, 2, none⟩) (Nat.le_refl _) _⟩
          · have h := row_set (u := .slice (some ⟨g, 0, none⟩) (k + 1) cap) (o := 2) H8.out (Nat.lt_succ_self oo)
            rw [HT1.out, List.length_append, HLK.out]
            exact h
          · rw [HT1.out]
            exact (HV5.out.map fun u zs ho => row_other (by first | exact World.ownsRow.alloc ho _ | exact row_step (World.ownsRow.alloc ho _) (drew_step _)) (by first | exact World.ownsRow.alloc HO5.out.row _ | exact row_step (World.ownsRow.alloc HO5.out.row _) (drew_step _)) HG8.out (by decide)).map fun u zs ho => row_set ho (Nat.lt_succ_self _) _
          · by_cases e : j = k
            · subst e; exact HIN.out
            · exact HALL.out j (by omega)
        case measure => simp [intOf]; omega)
    · have HE := Lib.hid (show k = rs.length by omega)
      have HIN := Lib.hid (show RowsIn z rs from ⟨by
        by_cases h0 : rs.length = 0
        · omega
        · exact HK.out (by omega), fun i hi => HALL.out i (by omega)⟩)
      have HC := Lib.hid (ra_yes HM.out HIN.out)
      have ht : (rowsOf z rs).take k = rowsOf z rs := by rw [HE.out, ← rowsOf_len z rs, List.take_length]
      have ho := HOW.out
      rw [ht] at ho
      have hek : k = (rowsOf z rs).length := by rw [rowsOf_len]; exact HE.out
      rw [hek] at ho c2
      have HO9 := Lib.hid ho
      clear ho ht hek
      go_wp2_with fail
      refine bodyPost_ret (v := .tuple #[.agg #[.int .i64 p, .int .i64 c, .slice va (rowsOf z rs).length vc], .int .i64 0]) (by simp [results, Try.results16, go_sem, r0, r1, r2]) rfl ⟨⟨va, vc, by rw [HC.out.1, HC.out.2.1, HC.out.2.2.1, HC.out.2.2.2], ?_⟩, ?_⟩
      · rw [HC.out.2.2.2]
        exact ((((HO9.out.setCell2 (p := ⟨w.heap.size + 1, 0, none⟩) (by show w.heap.size + 1 < oo + 1; omega) _).setCell2 (p := ⟨w.heap.size + 1, 1, none⟩) (by show w.heap.size + 1 < oo + 1; omega) _).setCell2 (p := ⟨w.heap.size + 1, 2, none⟩) (by show w.heap.size + 1 < oo + 1; omega) _)).rows2v
      · exact (((HBW.out.setCell (p := ⟨w.heap.size + 1, 0, none⟩) (by show w.heap.size ≤ w.heap.size + 1; omega) _).setCell (p := ⟨w.heap.size + 1, 1, none⟩) (by show w.heap.size ≤ w.heap.size + 1; omega) _).setCell (p := ⟨w.heap.size + 1, 2, none⟩) (by show w.heap.size ≤ w.heap.size + 1; omega) _)
end Go.Proofs.Ytcebphepfkpklaa

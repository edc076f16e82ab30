/- l03Copy and l03Told of the model. -/
import Derived.Test.YtnebkhelobpkpaaGd
import Derived.Test.YtnebkhelobpkpaaVm
import Derived.Test.YtnebkhelobpkpaaOw
import Derived.Deep.AppendLies
import Derived.Deep.RegionLaw
import Derived.Deep.DrawnRows
import Derived.BigQuiet
namespace Go.Proofs.Ytnebkhelobpkpaa
open Go.RowKit Go.Deep
set_option linter.unusedVariables false
attribute [local go_sem ↓] Go.wp_at_zero Go.wp_at_succ

theorem Boxes.set3d {W : World} {B : Nat} {t : TypeId} {u0 u1 u2 : Value} (h : Boxes W B t #[u0, u1, u2]) (v : Value) : Boxes (W.setCell ⟨B, 2, none⟩ v) B t #[u0, u1, v] := by
  unfold Boxes at h ⊢
  simp [World.setCell, Array.getElem?_modify, h]
theorem Own.mono3 {W : World} {base base' : Nat} {v : Value} {us : List Value} {zss : List (List Int)} (h : Own W base v us zss) (hb : base' ≤ base) : Own W base' v us zss := ⟨ownsRow_mono h.row hb, h.rows.mono hb⟩
theorem Own.nil3 (W : World) (base : Nat) : Own W base (.slice none 0 0) [] [] := ⟨World.ownsRow_nil _ _ _ _, RowsOwn.nil _ _⟩
theorem Own.setCell3 {W : World} {base : Nat} {v : Value} {us : List Value} {zss : List (List Int)} (h : Own W base v us zss) {p : Addr} (hp : p.block < base) (u : Value) : Own (W.setCell p u) base v us zss := ⟨row_seta h.row hp u, h.rows.map fun _ _ k => row_seta k hp u⟩

set_option maxRecDepth 100000 in
set_option maxHeartbeats 4000000 in
theorem l03Copy_any (q0 : Nat) (p c : Int) (a : Option Addr) (z : List (List Int)) (ca : Nat) (w : World) (hbx : Boxes w q0 46 #[.int .i64 p, .int .i64 c, .slice a z.length ca]) (hr : Rows2 w a z) (hs : Small2 z) :
    Calls Try.prog 157 #[.pointer (some ⟨q0, 0, none⟩)] w fun e w' => (∃ va vc us, e = .returned (.agg #[.int .i64 p, .int .i64 c, .slice va z.length vc]) ∧ Own w' w.heap.size (.slice va z.length vc) us z) ∧ Below w.heap.size w w' := by
  have hl1 : z.length ≤ 1048576 := hs.1
  have HR := Lib.hid hr
  have HS := Lib.hid hs
  have HQ := Lib.hid hbx
  have hq0 := hbx.lt
  clear hr hs hbx
  go_enter Try.func157, Try.ntmps157
  go_wp2_with fail
  have hb1 := (Below.refl w.heap.size w).alloc (Nat.le_refl _) (.cells #[.int .i64 0, .int .i64 0, .slice none 0 0] 46)
  have HY := Lib.hid (show Boxes (w.alloc (.cells #[.int .i64 0, .int .i64 0, .slice none 0 0] 46)) w.heap.size 46 #[.int .i64 0, .int .i64 0, .slice none 0 0] from World.alloc_heap_new _ _)
  have HQ1 := Lib.hid (HQ.out.step hb1)
  have HB1 := Lib.hid hb1
  have hs1 : (w.alloc (.cells #[.int .i64 0, .int .i64 0, .slice none 0 0] 46)).heap.size = w.heap.size + 1 := by simp
  generalize w.alloc (.cells #[.int .i64 0, .int .i64 0, .slice none 0 0] 46) = w1 at *
  have x0 := HQ1.out.m0
  have x1 := HQ1.out.m1
  have hq1 := HQ1.out.lt
  clear hb1 HQ
  go_region
  have hb2 := ((Below.refl (w.heap.size + 1) w1).alloc (Nat.le_of_eq hs1.symm) (.cells #[.int .i64 p, .int .i64 c, .slice none 0 0] 46)).drew
  have hbo : Boxes (w1.alloc (.cells #[.int .i64 p, .int .i64 c, .slice none 0 0] 46)).drew (w.heap.size + 1) 46 #[.int .i64 p, .int .i64 c, .slice none 0 0] := by
    have : Boxes (w1.alloc (.cells #[.int .i64 p, .int .i64 c, .slice none 0 0] 46)) w1.heap.size 46 #[.int .i64 p, .int .i64 c, .slice none 0 0] := World.alloc_heap_new _ _
    rw [hs1] at this
    exact this.step (drew_step _)
  generalize (w1.alloc (.cells #[.int .i64 p, .int .i64 c, .slice none 0 0] 46)).drew = w2 at *
  have HB2 := Lib.hid hb2
  have HO := Lib.hid hbo
  have HY2 := Lib.hid (show Boxes w2 w.heap.size 46 #[.int .i64 0, .int .i64 0, .slice none 0 0] from (hb2.block w.heap.size (by omega)).trans HY.out)
  have HQ2 := Lib.hid (show Boxes w2 q0 46 #[.int .i64 p, .int .i64 c, .slice a z.length ca] from (hb2.block q0 (by omega)).trans HQ1.out)
  have hs2 : w.heap.size + 2 ≤ w2.heap.size := hbo.lt
  generalize hoo : w.heap.size + 1 = oo at *
  have HOO := Lib.hid hoo
  clear hb2 hbo x0 x1
  obtain ⟨i1, ji, jz0, jz1, jz2⟩ := info_parts Try.infoInt64S
  go_wp2_with fail
  go_loopw [4] (fun i wr => ∃ (k : Nat) (va : Option Addr) (vc : Nat) (us : List Value), k ≤ z.length ∧ i = .int .i64 k ∧ Boxes wr oo 46 #[.int .i64 p, .int .i64 c, .slice va k vc] ∧ Own wr (oo + 1) (.slice va k vc) us (z.take k) ∧ Below oo w2 wr)
    (fun i _ => z.length - (intOf i).toNat)
  case atStart => exact ⟨0, none, 0, [], Nat.zero_le _, rfl, HO.out, Own.nil3 _ _, Below.refl _ _⟩
  case round =>
    obtain ⟨k, va, vc, us, hk, rfl, hx, hown, hb⟩ := hrel
    have HX := Lib.hid hx
    have HBL := Lib.hid hb
    have hooq : oo ≤ wr.heap.size := Nat.le_of_lt hx.lt
    have hooq1 : oo + 1 ≤ wr.heap.size := hx.lt
    have HXQ := Lib.hid hx
    have HOQ := Lib.hid hown
    have c0 := hx.m0
    have c1 := hx.m1
    have c2 := hx.m2
    have k2 := hx.frozen 2
    have bm2 := (hb.cell (p := ⟨q0, 2, none⟩) (show q0 < oo by omega)).trans HQ2.out.m2
    have r0 := (hb.cell (p := ⟨w.heap.size, 0, none⟩) (show w.heap.size < oo by omega)).trans HY2.out.m0
    have r1 := (hb.cell (p := ⟨w.heap.size, 1, none⟩) (show w.heap.size < oo by omega)).trans HY2.out.m1
    have r2 := (hb.cell (p := ⟨w.heap.size, 2, none⟩) (show w.heap.size < oo by omega)).trans HY2.out.m2
    have s0 := (hb.frozen (p := ⟨w.heap.size, 0, none⟩) (show w.heap.size < oo by omega)).trans (HY2.out.frozen 0)
    have s1 := (hb.frozen (p := ⟨w.heap.size, 1, none⟩) (show w.heap.size < oo by omega)).trans (HY2.out.frozen 1)
    have s2 := (hb.frozen (p := ⟨w.heap.size, 2, none⟩) (show w.heap.size < oo by omega)).trans (HY2.out.frozen 2)
    have HBW := Lib.hid (show Below w.heap.size w wr from HB1.out.trans ((HB2.out.mono (by omega)).trans (hb.mono (by omega))))
    clear hx hown hb
    by_cases hlt : k < z.length
    · have hr3 : Rows2 wr a z := HR.out.below HBW.out (Nat.le_refl _)
      rcases hr3 with h | ⟨zb, zo, rfl, hzc⟩
      · rw [h] at hlt; exact absurd hlt (Nat.not_lt_zero _)
      obtain ⟨ai, ci, hrow, hints⟩ := hzc k hlt
      have HI2 := Lib.hid hints
      have hi0 : (k : Int) < (z.length : Int) := by omega
      have hrl : (nthL z k).length ≤ 1048576 := HS.out.2 k hlt
      have HT1 := Lib.hid (take_snoc z hlt)
      have hlk : (z.take k).length = k := by rw [List.length_take]; omega
      have HLK := Lib.hid hlk
      clear hzc hints hlk r0 r1 r2 s0 s1 s2 HX
      go_wp2_with fail
      go_region_law ((first | (go_simp; go_at_call 73; refine (l00Own_any ai (nthL z k) ci _ (by first | exact HI2.out | exact HI2.out.below (Below.refl _ _).drew (Nat.le_refl _)) hrl).mono ?_; rintro e w5 ⟨⟨v5, rfl, hv5⟩, hb5⟩; obtain ⟨v5a, v5c, rfl⟩ := rowForm hv5; have HX5 := Lib.hid (show Boxes w5 oo 46 #[.int .i64 p, .int .i64 c, .slice va k vc] by first | exact HXQ.out.step hb5 | exact (HXQ.out.step (drew_step _)).step hb5); have HO5 := Lib.hid (show Own w5 (oo + 1) (.slice va k vc) us (z.take k) by first | exact HOQ.out.step hb5 | exact (HOQ.out.step (drew_step _)).step hb5); have HV5 := Lib.hid (show RowsOwn w5 (oo + 1) (us ++ [.slice v5a (nthL z k).length v5c]) (z.take k ++ [nthL z k]) by first | exact HOQ.out.rows.snoc hb5 hv5 hooq1 | exact (HOQ.out.step (drew_step _)).rows.snoc hb5 hv5 hooq1); have z2 := HX5.out.m2; have zf := HX5.out.frozen 2; have zl := HX5.out.lt; have KB := (show Below oo wr w5 from by first | exact hb5.mono hooq | exact (Below.refl oo wr).drew.trans (hb5.mono hooq))) | (refine step_append_lies _ (by rfl) _ _ 36 (by rfl) (oo + 1) 35 i1 (.slice none 0 0) 1 24 Try.underlying36 ji jz0 jz1 jz2 (by rfl) (by decide) (.slice va k vc) k us (by rfl) (by have h := World.ownsRow.alloc HO5.out.row (.cells #[.slice v5a (nthL z k).length v5c] 35); rw [HLK.out] at h; exact h) ⟨w5.heap.size, 0, none⟩ 1 1 [.slice v5a (nthL z k).length v5c] (by rfl) (by rfl) (by first | exact cell_one_new _ _ _ | (intro j u hj; exact cell_one_new w5 _ _ j u hj)) (by simp [Value.oneCell']) (by decide) (by unfold maxLen; omega) (by omega) (by simp; omega) _ rfl ?_; intro g cap w8 hown8 hgrow8 hat8 hlt8; have hx8 := Boxes.grown (Boxes.step HX5.out (by first | exact (Below.refl _ _).alloc (Nat.le_refl _) _ | exact ((Below.refl _ _).alloc (Nat.le_refl _) _).drew)) hgrow8 (row_ge HO5.out.row (Nat.lt_succ_self _)); have y0 := hx8.m2; have y1 := hx8.frozen 2; have y2 := hx8.lt; have KG := (show Below oo wr w8 from Below.grown (by first | exact KB.alloc (Nat.le_trans hooq KB.size) _ | exact (KB.alloc (Nat.le_trans hooq KB.size) _).drew) hgrow8 (by simp only [World.size_alloc]; have := KB.size; omega) (fun q hq => by have := row_lt HO5.out.row hq; omega)))))
      all_goals (
        have HX8 := Lib.hid hx8
        have H8 := Lib.hid hown8
        have HG8 := Lib.hid hgrow8
        have HK8 := Lib.hid KG
        clear hx8 hown8 hgrow8 hat8 hlt8 y0 y1 KG KB z2 zf zl c0 c1 c2 k2 bm2 hrow
        go_wp2_with fail
        go_roundw
        case rel =>
          refine ⟨k + 1, some ⟨g, 0, none⟩, cap, us ++ [.slice v5a (nthL z k).length v5c], by omega, by go_num, HX8.out.set3d _, ⟨?_, ?_⟩, (HBL.out.trans HK8.out).setCell (p := ⟨oo, 2, none⟩) (Nat.le_refl _) _⟩
          · have h := row_set (u := .slice (some ⟨g, 0, none⟩) (k + 1) cap) (o := 2) H8.out (Nat.lt_succ_self oo)
            rw [HT1.out, List.length_append, HLK.out]
            exact h
          · rw [HT1.out]
            exact (HV5.out.map fun u zs ho => row_other (by first | exact World.ownsRow.alloc ho _ | exact row_step (World.ownsRow.alloc ho _) (drew_step _)) (by first | exact World.ownsRow.alloc HO5.out.row _ | exact row_step (World.ownsRow.alloc HO5.out.row _) (drew_step _)) HG8.out (by decide)).map fun u zs ho => row_set ho (Nat.lt_succ_self _) _
        case measure => simp [intOf]; omega)
    · have HE := Lib.hid (show k = z.length by omega)
      have ht : z.take k = z := by rw [HE.out, List.take_length]
      have ho := HOQ.out
      rw [ht, HE.out] at ho
      rw [HE.out] at c2
      have HO9 := Lib.hid ho
      have h9 := HOO.out
      clear ho ht
      go_wp2_with fail
      refine bodyPost_ret (v := .agg #[.int .i64 p, .int .i64 c, .slice va z.length vc]) (by simp [results, Try.results157, go_sem, r0, r1, r2]) rfl ⟨⟨va, vc, us, rfl, ?_⟩, ?_⟩
      · exact ((((HO9.out.setCell3 (p := ⟨w.heap.size, 0, none⟩) (by show w.heap.size < oo + 1; omega) _).setCell3 (p := ⟨w.heap.size, 1, none⟩) (by show w.heap.size < oo + 1; omega) _).setCell3 (p := ⟨w.heap.size, 2, none⟩) (by show w.heap.size < oo + 1; omega) _)).mono3 (by omega)
      · exact (((HBW.out.setCell (p := ⟨w.heap.size, 0, none⟩) (Nat.le_refl _) _).setCell (p := ⟨w.heap.size, 1, none⟩) (Nat.le_refl _) _).setCell (p := ⟨w.heap.size, 2, none⟩) (Nat.le_refl _) _)
end Go.Proofs.Ytnebkhelobpkpaa

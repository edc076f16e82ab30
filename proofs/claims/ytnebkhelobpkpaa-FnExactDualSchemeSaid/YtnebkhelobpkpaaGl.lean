/- Grids as matrices: lists, matrix, matrixWithin. -/
import Derived.Test.YtnebkhelobpkpaaGd
import Derived.Test.YtnebkhelobpkpaaVm
import Derived.Deep.RegionHeld3
namespace Go.Proofs.Ytnebkhelobpkpaa
open Go.RowKit Go.Deep
set_option linter.unusedVariables false

theorem Own.mono {W : World} {base base' : Nat} {v : Value} {us : List Value} {zss : List (List Int)} (h : Own W base v us zss) (hb : base' ≤ base) : Own W base' v us zss := ⟨ownsRow_mono h.row hb, h.rows.mono hb⟩
theorem Own.nil (W : World) (base : Nat) : Own W base (.slice none 0 0) [] [] := ⟨World.ownsRow_nil _ _ _ _, RowsOwn.nil _ _⟩
theorem Own.setCell2 {W : World} {base : Nat} {v : Value} {us : List Value} {zss : List (List Int)} (h : Own W base v us zss) {p : Addr} (hp : p.block < base) (u : Value) : Own (W.setCell p u) base v us zss := ⟨row_seta h.row hp u, h.rows.map fun _ _ k => row_seta k hp u⟩

set_option maxRecDepth 100000 in
set_option maxHeartbeats 2000000 in
theorem lists_any (p : Int) (a : Option Addr) (zss : List (List Int)) (ca : Nat) (w : World) (hr : GridR w a p zss) (hs : Small2 zss) :
    Calls Try.prog 76 #[.slice a zss.length ca] w fun e w' => (∃ v us, e = .returned v ∧ Own w' w.heap.size v us zss) ∧ Below w.heap.size w w' := by
  have hl1 : zss.length ≤ 1048576 := hs.1
  have HS := Lib.hid hs
  have HR := Lib.hid hr
  clear hs hr
  obtain ⟨i0, hi, hz0, hz1, hz2⟩ := info_parts Try.infoInt64
  obtain ⟨i1, ji, jz0, jz1, jz2⟩ := info_parts Try.infoInt64S
  go_enter Try.func76, Try.ntmps76
  go_wp2_with (at_make; refine wpList_make_own _ rfl _ _ 36 rfl w.heap.size 35 i1 (.slice none 0 0) 1 Try.underlying36 ji jz0 jz1 _ _ _ zss.length rfl rfl rfl (by rw [jz2]; omega) (by unfold maxLen; omega) (Nat.le_refl _) ?_; intro w3 hown hgrow)
  have HB0 := Lib.hid ((Below.refl w.heap.size w).grown hgrow (Nat.le_refl _) (fun q hq => by cases hq))
  have HO0 := Lib.hid (show Own w3 w.heap.size (.slice (some ⟨w.heap.size, 0, none⟩) 0 zss.length) [] (zss.take 0) from ⟨hown, RowsOwn.nil _ _⟩)
  clear hown hgrow
  generalize (Value.slice (some ⟨w.heap.size, 0, none⟩) 0 zss.length) = v0 at *
  go_loopw [3, 5, 6, 8, 14] (fun q3 q5 q6 q8 i wr => ∃ (k : Nat) (us : List Value), k ≤ zss.length ∧ i = .int .i64 k ∧ Own wr w.heap.size q3 us (zss.take k) ∧ Below w.heap.size w wr)
    (fun _ _ _ _ i _ => zss.length - (intOf i).toNat)
  case atStart => exact ⟨0, _, Nat.zero_le _, rfl, HO0.out, HB0.out⟩
  case round =>
    obtain ⟨k, us, hk, rfl, hog, hb⟩ := hrel
    have hszo := hb.size
    have D := Lib.hid (And.intro hog hb)
    clear hog hb HO0 HB0
    obtain ⟨wo, rfl⟩ : ∃ wo : World, wo = wr := ⟨_, rfl⟩
    by_cases hlt : k < zss.length
    · rcases HR.out.below D.out.2 (Nat.le_refl _) with h | ⟨b, rfl, hc⟩
      · rw [h] at hlt; exact absurd hlt (Nat.not_lt_zero _)
      obtain ⟨ai, ci, hcell, hnums⟩ := hc k hlt
      have hi0 : (k : Int) < (zss.length : Int) := by omega
      have hlr := HS.out.2 k hlt
      have HT := Lib.hid (take_snoc zss hlt)
      generalize nthL zss k = row at hcell hnums hlr HT
      have HI := Lib.hid hnums
      clear hc hnums
      go_wp2_with (at_make; refine wpList_make_own _ rfl _ _ 35 rfl wo.heap.size 2 i0 (.int .i64 0) 1 Try.underlying35 hi hz0 hz1 _ _ _ row.length rfl rfl rfl (by rw [hz2]; omega) (by unfold maxLen; omega) (Nat.le_refl _) ?_; intro w4 hown hgrow)
      have hb4 := (Below.refl wo.heap.size wo).grown hgrow (Nat.le_refl _) (fun q hq => by cases hq)
      have HOW := Lib.hid (show OwnI w4 wo.heap.size (.slice (some ⟨wo.heap.size, 0, none⟩) 0 row.length) (row.take 0) from hown)
      have HB4 := Lib.hid hb4
      clear hown hgrow hb4
      generalize (Value.slice (some ⟨wo.heap.size, 0, none⟩) 0 row.length) = r0 at *
      go_loopw [6, 8, 23] (fun q6 q8 i wr => ∃ (j : Nat), j ≤ row.length ∧ i = .int .i64 j ∧ OwnI wr wo.heap.size q6 (row.take j) ∧ Below wo.heap.size wo wr)
        (fun _ _ i _ => row.length - (intOf i).toNat)
      case atStart => exact ⟨0, Nat.zero_le _, rfl, HOW.out, HB4.out⟩
      case round =>
        obtain ⟨j, hj, rfl, ho, hb⟩ := hrel
        have hsz := hb.size
        have HO := Lib.hid ho
        have HB := Lib.hid hb
        clear ho hb HOW HB4
        by_cases hltj : j < row.length
        · rcases HI.out.below HB.out (Nat.le_refl _) with h | ⟨b2, rfl, hc⟩
          · rw [h] at hltj; exact absurd hltj (Nat.not_lt_zero _)
          obtain ⟨hcj0, hcj1⟩ := hc j hltj
          have hj0 : (j : Int) < (row.length : Int) := by omega
          have HT1 := Lib.hid (take_snoc1 row hltj)
          have hlen : (row.take j).length = j := by rw [List.length_take]; omega
          have HLN := Lib.hid hlen
          generalize nth row j = x at hcj1 HT1
          clear hc hlen
          go_wp2_with (at_builtin; refine wpList_append_own _ rfl _ _ 35 rfl wo.heap.size 2 i0 (.int .i64 0) 1 8 Try.underlying35 hi hz0 hz1 hz2 rfl (by decide) _ _ _ rfl (World.ownsRow.alloc (World.ownsRow.alloc HO.out _) _) ⟨wr.heap.size + 1, 0, none⟩ 1 1 [.int .i64 x] rfl rfl (by have := cell_one_new (wr.alloc (.cells #[.int .i64 p, .int .i64 x] 126)) (.int .i64 x) 2; simp only [World.size_alloc] at this; exact this) (by simp [Value.oneCell']) (by rw [HLN.out]; unfold maxLen; omega) (by rw [HLN.out]; omega) (by simp; omega) ?_; intro v' w6 hown6 hgrow6 _)
          have H6 := Lib.hid (show OwnI w6 wo.heap.size v' (row.take (j + 1)) by
            rw [HT1.out]; unfold OwnI; rw [vals_snoc, List.length_append]; exact hown6)
          have HB6 := Lib.hid (((HB.out.alloc hsz (.cells #[.int .i64 p, .int .i64 x] 126)).alloc (by simp; omega) (.cells #[.int .i64 x] 2)).grown hgrow6 (by simp; omega) (fun q hq => (row_lt HO.out hq).1))
          clear hown6 hgrow6
          go_wp2
          go_roundw
          case rel => exact ⟨j + 1, by omega, by go_num, H6.out, HB6.out⟩
          case measure => simp [intOf]; omega
        · have HE := Lib.hid (show j = row.length by omega)
          have HOG := Lib.hid (D.out.1.step HB.out)
          have HBW := Lib.hid (D.out.2.trans (HB.out.mono D.out.2.size))
          have HRN := Lib.hid (D.out.1.rows.snoc (W' := wr) (u := u6) (zs := row) HB.out (by have := HO.out; rw [HE.out, List.take_length] at this; exact this) hszo)
          obtain ⟨ua, uc, hu6⟩ := rowForm HO.out
          rw [HE.out, List.take_length] at hu6
          subst hu6
          have hlk : (zss.take k).length = k := by rw [List.length_take]; omega
          have HLK := Lib.hid hlk
          have hszw : w.heap.size ≤ wr.heap.size := by omega
          clear hlk HO
          go_wp2_with (at_builtin; refine wpList_append_own _ rfl _ _ 36 rfl w.heap.size 35 i1 (.slice none 0 0) 1 24 Try.underlying36 ji jz0 jz1 jz2 rfl (by decide) _ _ us rfl (World.ownsRow.alloc HOG.out.row _) ⟨wr.heap.size, 0, none⟩ 1 1 [.slice ua row.length uc] rfl rfl (cell_one_new _ _ _) (by simp [Value.oneCell']) (by rw [HLK.out]; unfold maxLen; omega) (by rw [HLK.out]; omega) (by simp; omega) ?_; intro v' w7 hown7 hgrow7 _)
          have HO7 := Lib.hid hown7
          have HG7 := Lib.hid hgrow7
          clear hown7 hgrow7
          go_wp2_with fail
          go_roundw
          case rel =>
            refine ⟨k + 1, us ++ [.slice ua row.length uc], by omega, by go_num, ⟨?_, ?_⟩, ?_⟩
            · rw [HT.out, List.length_append]
              exact HO7.out
            · rw [HT.out]
              exact HRN.out.map (W' := w7) fun u zs ho => row_other (World.ownsRow.alloc ho _) (World.ownsRow.alloc HOG.out.row _) HG7.out (by decide)
            · exact (HBW.out.alloc HBW.out.size _).grown HG7.out (by simp; omega) (fun q hq => (row_lt HOG.out.row hq).1)
          case measure => simp [intOf]; omega
    · have HE := Lib.hid (show k = zss.length by omega)
      go_wp2_with fail
      go_ret
      refine ⟨⟨_, us, rfl, ?_⟩, D.out.2⟩
      have := D.out.1
      rw [show zss.take k = zss by rw [HE.out, List.take_length]] at this
      exact this

end Go.Proofs.Ytnebkhelobpkpaa

/- l03Unit of the model. -/
import Derived.Test.YtekhjoenejgmaaaIno
namespace Go.Proofs.Ytekhjoenejgmaaa
open Go.RowKit Go.Deep Go.Joins
set_option linter.unusedVariables false

theorem unit_take (n : Nat) {k : Nat} (h : k < n) : (unitZ n).take (k + 1) = (unitZ n).take k ++ [unitL n k] := by
  rw [take_snoc _ (by rw [unitZ_len]; exact h), unitZ_at h]
structure GivesUnit (W : World) (p : Int) (n : Nat) (e : Ending) (w' : World) : Prop where
  val : ∃ va vc us, e = .returned (.agg #[.int .i64 p, .int .i64 (n : Int), .slice va n vc]) ∧ Own w' W.heap.size (.slice va n vc) us (unitZ n)
  below : Below W.heap.size W w'
set_option maxRecDepth 100000 in
set_option maxHeartbeats 4000000 in
theorem l03Unit_any (p : Int) (n : Nat) (w : World) (hn : n ≤ 12) : Calls Try.prog 85 #[.int .i64 p, .int .i64 (n : Int)] w (GivesUnit w p n) := by
  obtain ⟨i1, ji, jz0, jz1, jz2⟩ := info_parts Try.infoInt64S
  go_enter Try.func85, Try.ntmps85
  go_wp2_with fail
  have hb2 := ((Below.refl w.heap.size w).alloc (Nat.le_refl _) (.cells #[.int .i64 0, .int .i64 0, .slice none 0 0] 31)).alloc (by simp) (.cells #[.int .i64 p, .int .i64 (n : Int), .slice none 0 0] 31)
  have hy : Boxes ((w.alloc (.cells #[.int .i64 0, .int .i64 0, .slice none 0 0] 31)).alloc (.cells #[.int .i64 p, .int .i64 (n : Int), .slice none 0 0] 31)) w.heap.size 31 #[.int .i64 0, .int .i64 0, .slice none 0 0] := Boxes.step (W := w.alloc (.cells #[.int .i64 0, .int .i64 0, .slice none 0 0] 31)) (World.alloc_heap_new _ _) (al_b _ _)
  have hbo : Boxes ((w.alloc (.cells #[.int .i64 0, .int .i64 0, .slice none 0 0] 31)).alloc (.cells #[.int .i64 p, .int .i64 (n : Int), .slice none 0 0] 31)) (w.heap.size + 1) 31 #[.int .i64 p, .int .i64 (n : Int), .slice none 0 0] := by
    have : Boxes ((w.alloc (.cells #[.int .i64 0, .int .i64 0, .slice none 0 0] 31)).alloc (.cells #[.int .i64 p, .int .i64 (n : Int), .slice none 0 0] 31)) (w.alloc (.cells #[.int .i64 0, .int .i64 0, .slice none 0 0] 31)).heap.size 31 #[.int .i64 p, .int .i64 (n : Int), .slice none 0 0] := World.alloc_heap_new _ _
    simpa using this
  generalize ((w.alloc (.cells #[.int .i64 0, .int .i64 0, .slice none 0 0] 31)).alloc (.cells #[.int .i64 p, .int .i64 (n : Int), .slice none 0 0] 31)) = w2 at *
  have HY := Lib.hid hy
  have HO := Lib.hid hbo
  have HB := Lib.hid hb2
  generalize hoo : w.heap.size + 1 = oo at *
  have HOO := Lib.hid hoo
  clear hb2 hy hbo
  go_wp2_with fail
  go_loopw [6, 7] (fun i q wr => ∃ (k : Nat) (va : Option Addr) (vc : Nat) (us : List Value), k ≤ n ∧ i = .int .i64 k ∧ Boxes wr oo 31 #[.int .i64 p, .int .i64 (n : Int), .slice va k vc] ∧ Own wr (oo + 1) (.slice va k vc) us ((unitZ n).take k) ∧ Below oo w2 wr)
    (fun i _ _ => n - (intOf i).toNat)
  case atStart => exact ⟨0, none, 0, [], Nat.zero_le _, rfl, HO.out, Own.nil3 _ _, Below.refl _ _⟩
  case round =>
    obtain ⟨k, va, vc, us, hk, rfl, hx, hown, hb⟩ := hrel
    have HXQ := Lib.hid hx
    have HOQ := Lib.hid hown
    have HBL := Lib.hid hb
    have hooq1 : oo + 1 ≤ wr.heap.size := hx.lt
    have hlk : ((unitZ n).take k).length = k := by rw [List.length_take, unitZ_len]; omega
    have HLK := Lib.hid hlk
    clear hx hown hb hlk
    by_cases hlt : k < n
    · have hi0 : (k : Int) < (n : Int) := by omega
      have hmk := run_make_row' (P := Try.prog) 22 2 (.int .i64 0) 8 Try.underlying22 Try.infoInt64 rfl .i64 .i64 n (by omega) (by omega)
      have hr0 := World.rowIs_made wr (.int .i64 0) n 2
      have g0 := hr0.cell hlt
      have g1 := hr0.frozen k
      have g2 : wr.heap.size < (wr.alloc (.cells (madeCells #[.int .i64 0] n) 2)).heap.size := by simp
      have hun := unit_own wr n k (by omega) hlt
      have hbu : Below wr.heap.size wr ((wr.alloc (.cells (madeCells #[.int .i64 0] n) 2)).setCell ⟨wr.heap.size, k, none⟩ (.int .i64 1)) := (al_b wr _).setCell (p := ⟨wr.heap.size, k, none⟩) (Nat.le_refl _) _
      go_upto_region 7 with fail
      clear hmk hr0 g0 g1 g2
      have hset : (wr.alloc (.cells (madeCells #[.int .i64 0] n) 2)).setCell ⟨wr.heap.size, k, none⟩ (.int .i64 1) = wr.alloc (.cells ((madeCells #[.int .i64 0] n).setIfInBounds k (.int .i64 1)) 2) := World.setCell_alloc_new _ _ _ _
      rw [hset] at hun hbu
      clear hset
      have HOS := Lib.hid hun
      have HBN := Lib.hid hbu
      clear hun hbu
      generalize wr.alloc (.cells ((madeCells #[.int .i64 0] n).setIfInBounds k (.int .i64 1)) 2) = w9 at *
      have HTK := Lib.hid (unit_take n hlt)
      have hxq := HXQ.out.step HBN.out
      have c2 := hxq.m2
      have cf := hxq.frozen 2
      have cl := hxq.lt
      have HX9 := Lib.hid hxq
      have HRN := Lib.hid (HOQ.out.rows.snoc HBN.out HOS.out hooq1)
      have HOG := Lib.hid (row_step HOQ.out.row HBN.out)
      have hsz9 : wr.heap.size ≤ w9.heap.size := HBN.out.size
      clear hxq
      go_wp2_with (at_builtin; refine wpList_append_own _ rfl _ _ 23 rfl (oo + 1) 22 i1 (.slice none 0 0) 1 24 Try.underlying23 ji jz0 jz1 jz2 rfl (by decide) _ _ us rfl (World.ownsRow.alloc HOG.out _) ⟨w9.heap.size, 0, none⟩ 1 1 [(.slice (some ⟨wr.heap.size, 0, none⟩) n n)] rfl rfl (cell_one_new _ _ _) (by simp [Value.oneCell']) (by rw [HLK.out]; unfold maxLen; omega) (by rw [HLK.out]; omega) (by simp; omega) ?_; intro v' w10 hown7 hgrow7 _; rw [HLK.out] at hown7; obtain ⟨va', vc', rfl⟩ := rowForm hown7; have hxx := (HX9.out.step ((Below.refl _ _).alloc (Nat.le_refl _) (.cells #[(.slice (some ⟨wr.heap.size, 0, none⟩) n n)] 22))).grown hgrow7 (row_ge HOG.out (Nat.lt_succ_self _)); have g2 := hxx.m2; have gf := hxx.frozen 2)
      have hz7 : oo < w10.heap.size := hxx.lt
      have HX7 := Lib.hid hxx
      have HO7 := Lib.hid hown7
      have HG7 := Lib.hid hgrow7
      clear hxx hown7 hgrow7
      go_wp2_with fail
      go_roundw
      case rel =>
        refine ⟨k + 1, va', vc', us ++ [(.slice (some ⟨wr.heap.size, 0, none⟩) n n)], by omega, by go_num, HX7.out.set3d _, ⟨?_, ?_⟩, ?_⟩
        · have := row_set (u := .slice va' (k + 1) vc') (o := 2) HO7.out (Nat.lt_succ_self oo)
          rw [HTK.out, List.length_append, HLK.out]
          exact this
        · rw [HTK.out]
          refine (HRN.out.map (W' := w10) fun u zs ho => row_other (World.ownsRow.alloc ho _) (World.ownsRow.alloc HOG.out _) HG7.out (by decide)).map fun u zs ho => row_set ho (Nat.lt_succ_self oo) _
        · refine Below.setCell (p := ⟨oo, 2, none⟩) ?_ (Nat.le_refl oo) _
          exact ((HBL.out.trans (HBN.out.mono (by omega))).alloc (by omega) _).grown HG7.out (by simp; omega) (fun q hq => by have := row_lt HOG.out hq; omega)
      case measure => simp [intOf]; omega
    · have hi0 : ¬ (k : Int) < (n : Int) := by omega
      have hE : k = n := by omega
      have ho := HOQ.out
      have hxq := HXQ.out
      have hall : (unitZ n).take k = unitZ n := List.take_of_length_le (by rw [unitZ_len]; omega)
      rw [hall, hE] at ho
      rw [hE] at hxq
      have hy2 := (HBL.out.block w.heap.size (by omega)).trans HY.out
      have HY2 := Lib.hid (show Boxes wr w.heap.size 31 #[.int .i64 0, .int .i64 0, .slice none 0 0] from hy2)
      have HBW := Lib.hid (HB.out.trans (HBL.out.mono (by omega)))
      have c0 := hxq.m0
      have c1 := hxq.m1
      have c2 := hxq.m2
      have wl := hxq.lt
      have r0 := HY2.out.m0
      have r1 := HY2.out.m1
      have r2 := HY2.out.m2
      have s0 := HY2.out.frozen 0
      have s1 := HY2.out.frozen 1
      have s2 := HY2.out.frozen 2
      have HO9 := Lib.hid ho
      clear ho hxq hall hy2
      go_wp2_with fail
      refine bodyPost_ret (v := .agg #[.int .i64 p, .int .i64 (n : Int), .slice va n vc]) (by simp [results, Try.results85, go_sem, r0, r1, r2]) rfl ⟨⟨va, vc, us, rfl, ?_⟩, (((HBW.out.setCell (p := ⟨w.heap.size, 0, none⟩) (Nat.le_refl _) _).setCell (p := ⟨w.heap.size, 1, none⟩) (Nat.le_refl _) _).setCell (p := ⟨w.heap.size, 2, none⟩) (Nat.le_refl _) _)⟩
      have h9 := HOO.out
      exact ((((HO9.out.setCell3 (p := ⟨w.heap.size, 0, none⟩) (by show w.heap.size < oo + 1; omega) _).setCell3 (p := ⟨w.heap.size, 1, none⟩) (by show w.heap.size < oo + 1; omega) _).setCell3 (p := ⟨w.heap.size, 2, none⟩) (by show w.heap.size < oo + 1; omega) _)).mono3 (by omega)
end Go.Proofs.Ytekhjoenejgmaaa

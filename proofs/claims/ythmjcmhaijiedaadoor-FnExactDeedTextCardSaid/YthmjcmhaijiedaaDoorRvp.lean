/- rankListOf and ValidRanks of the program. -/
import Derived.Test.YthmjcmhaijiedaaDoorRv2
import Derived.Test.YthmjcmhaijiedaaDoorCpy
import Derived.Deep.RegionHeld3
namespace Go.Proofs.YthmjcmhaijiedaaDoor
open Go.RowKit Go.Deep
set_option linter.unusedVariables false

theorem fill32 (z : List Int) (h : z.length ≤ 32) : (splice (List.replicate 32 (Value.int .i64 0)) 0 (vals z)).toArray = arr32 z := by
  have hl : (vals z).length = z.length := by simp [vals]
  unfold splice arr32
  rw [hl]
  congr 1
  simp only [List.take_zero, List.nil_append, Nat.zero_add, List.drop_replicate]
  refine List.ext_getElem? fun j => ?_
  by_cases hj : j < 32
  · have hR : ((List.range 32).map fun j => Value.int .i64 (nth z j))[j]? = some (Value.int .i64 (nth z j)) := by rw [List.getElem?_map, List.getElem?_range hj]; rfl
    rw [hR]
    by_cases hk : j < z.length
    · rw [List.getElem?_append_left (by rw [hl]; exact hk)]
      simp [vals, hk, nth_lt hk]
    · rw [List.getElem?_append_right (by rw [hl]; omega), hl, List.getElem?_replicate, if_pos (by omega), nth_out (by omega)]
  · rw [List.getElem?_eq_none (by simp [hl]; omega), List.getElem?_eq_none (by simp; omega)]
theorem arr32_one (z : List Int) : (arr32 z).all (·.oneCell') = true := by
  simp [arr32, Value.oneCell']

set_option maxRecDepth 100000 in
set_option maxHeartbeats 2000000 in
theorem rankListOf_any (h l : Int) (a : Option Addr) (z : List Int) (c : Nat) (w : World) (hr : Ints w a z) (hl : z.length ≤ 32) :
    Calls Tryd.prog 139 #[.agg #[.int .i64 h, .int .i64 l, .slice a z.length c]] w fun e w' => e = .returned (.agg (arr32 z)) ∧ Below w.heap.size w w' := by
  obtain ⟨i0, hi, hz0, hz1, hz2⟩ := info_parts Tryd.infoInt64
  have HR := Lib.hid hr
  have HF := Lib.hid (fill32 z hl)
  have HO := Lib.hid (arr32_one z)
  have HS := Lib.hid (show (Tryd.prog.info? 103).map (·.size) = some (arr32 z).size by rw [arr32_size]; exact rkSize)
  have HSZ := Lib.hid (arr32_size z)
  clear hr
  go_enter Tryd.func139, Tryd.ntmps139
  go_wp2_with fail
  generalize hZ : (#[.int .i64 0, .int .i64 0, .int .i64 0, .int .i64 0, .int .i64 0, .int .i64 0, .int .i64 0, .int .i64 0, .int .i64 0, .int .i64 0, .int .i64 0, .int .i64 0, .int .i64 0, .int .i64 0, .int .i64 0, .int .i64 0, .int .i64 0, .int .i64 0, .int .i64 0, .int .i64 0, .int .i64 0, .int .i64 0, .int .i64 0, .int .i64 0, .int .i64 0, .int .i64 0, .int .i64 0, .int .i64 0, .int .i64 0, .int .i64 0, .int .i64 0, .int .i64 0] : Array Value) = Z0 at *
  have hzl : Z0 = (List.replicate 32 (Value.int .i64 0)).toArray := by rw [← hZ]; rfl
  clear hZ
  have hb1 := (Below.refl w.heap.size w).alloc (Nat.le_refl _) (.cells #[.int .i64 h, .int .i64 l, .slice a z.length c] 32)
  have hb2 := hb1.alloc (by simp) (.cells Z0 103)
  have hb3 := hb2.alloc (by simp; omega) (.cells Z0 103)
  have hx := ((boxes_new w #[.int .i64 h, .int .i64 l, .slice a z.length c] 32).step ((Below.refl _ _).alloc (Nat.le_refl _) (.cells Z0 103))).step ((Below.refl _ _).alloc (Nat.le_refl _) (.cells Z0 103))
  have hy := (boxes_new (w.alloc (.cells #[.int .i64 h, .int .i64 l, .slice a z.length c] 32)) Z0 103).step ((Below.refl _ _).alloc (Nat.le_refl _) (.cells Z0 103))
  have hzz := boxes_new ((w.alloc (.cells #[.int .i64 h, .int .i64 l, .slice a z.length c] 32)).alloc (.cells Z0 103)) Z0 103
  simp only [World.size_alloc] at hy hzz
  generalize ((w.alloc (.cells #[.int .i64 h, .int .i64 l, .slice a z.length c] 32)).alloc (.cells Z0 103)).alloc (.cells Z0 103) = w3 at *
  subst hzl
  have HB3 := Lib.hid hb3
  have HR3 := Lib.hid (HR.out.step hb3)
  have HY := Lib.hid hy
  have HZZ := Lib.hid hzz
  have c2 := hx.m2
  have hlt := hzz.lt
  clear hb1 hb2 hb3 hx hy hzz
  go_region_law (refine step_copy_many (by rfl) (.tmp 4) (.tmp 6) 22 22 (by rfl) 2 i0 1 Tryd.underlying22 hi hz1 (some ⟨w.heap.size + 1 + 1, 0, none⟩) a 32 32 z.length c (by simp [Act.eval]) (by simp [Act.eval]) (w.heap.size + 1 + 1) 0 (List.replicate 32 (Value.int .i64 0)) 103 (by first | exact HZZ.out | exact HZZ.out.step (drew_step _)) (vals z) z.length (Nat.min_eq_left hl) (by simp [vals]) (fun h0 => ⟨rfl, src_of_ints (by first | exact HR3.out | exact HR3.out.step (drew_step _)) h0⟩) (by simp [vals]; omega) (vals_one _) (w.heap.size + 1 + 1) w3 (by first | exact Below.refl _ _ | exact (Below.refl _ _).drew) (Nat.le_refl _) ?_; intro w9 hg9 hb9)
  all_goals (
    have hx9 : Boxes w9 (w.heap.size + 1 + 1) 103 (arr32 z) := by
      have := hg9.out
      rw [HF.out] at this
      exact this
    have hy9 : Boxes w9 (w.heap.size + 1) 103 (List.replicate 32 (Value.int .i64 0)).toArray := (hb9.block (w.heap.size + 1) (Nat.lt_succ_self _)).trans HY.out
    have HB9 := Lib.hid (show Below w.heap.size w w9 from HB3.out.trans (hb9.mono (by omega)))
    clear hg9 hb9 c2
    go_wp2_with (first | (refine wpList_load_arr 103 (.tmp 3) rfl (w.heap.size + 1 + 1) rfl (by rfl) (arr32 z) 32 2 hx9 rkUnder HS.out ?_) | (refine wpList_store_row rfl 103 (.tmp 2) (.tmp 8) rfl (w.heap.size + 1) (arr32 z) rfl rfl 103 _ hy9 HS.out (by rw [HSZ.out]; rfl) HO.out ?_))
    refine bodyPost_ret (v := .agg (arr32 z)) ?_ (by rfl) ⟨rfl, below_setRow HB9.out (by omega) _⟩
    refine results_cell_row (p := 2) (ty := 103) rfl _ _ (w.heap.size + 1) 103 (arr32 z) (0, 0) (.array 32 2) ?_ ?_ rkUnder rfl HS.out
    · rfl
    · exact setRow_heap _ _ _ _ _ (0, 0) hy9)
end Go.Proofs.YthmjcmhaijiedaaDoor

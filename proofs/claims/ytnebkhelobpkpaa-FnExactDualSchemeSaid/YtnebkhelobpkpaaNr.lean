/- newRow of the program. -/
import Derived.Test.YtnebkhelobpkpaaCc2
import Derived.Test.YtnebkhelobpkpaaRep
namespace Go.Proofs.Ytnebkhelobpkpaa
open Go.RowKit Go.Deep
set_option linter.unusedVariables false

theorem Try.infoOwned : (Try.prog.info? 139).map (fun i => (i.zero, i.size, i.bytes)) = some (some (.agg #[.int .i64 0, .int .i64 0, .int .i64 0, .int .i64 0, .int .i64 0, .int .i64 0, .int .i64 0, .int .i64 0, .int .i64 0, .int .i64 0, .int .i64 0, .int .i64 0, .int .i64 0]), 13, 104) := by kernel_rfl
theorem nth_out {L : List Int} {j : Nat} (h : L.length ≤ j) : nth L j = 0 := by unfold nth; simp [List.getD, List.getElem?_eq_none h]
theorem pad12 (L : List Int) {m : Nat} (hm : Nat.min L.length 12 = m) : vals (L.take m) ++ List.replicate (12 - m) (Value.int .i64 0) = (List.range 12).map fun j => Value.int .i64 (nth L j) := by
  have h1 : m ≤ L.length := by rw [← hm]; exact Nat.min_le_left _ _
  have h2 : m ≤ 12 := by rw [← hm]; exact Nat.min_le_right _ _
  have h3 : m < 12 → L.length = m := fun h => by
    rcases Nat.le_total L.length 12 with k | k
    · rw [← hm]; exact (Nat.min_eq_left k).symm
    · have : m = 12 := by rw [← hm]; exact Nat.min_eq_right k
      omega
  have hl : (vals (L.take m)).length = m := by simp [vals]; omega
  refine List.ext_getElem? fun j => ?_
  by_cases hj : j < 12
  · have hR : ((List.range 12).map fun j => Value.int .i64 (nth L j))[j]? = some (Value.int .i64 (nth L j)) := by rw [List.getElem?_map, List.getElem?_range hj]; rfl
    rw [hR]
    by_cases hk : j < m
    · rw [List.getElem?_append_left (by rw [hl]; exact hk)]
      unfold vals
      rw [List.getElem?_map, List.getElem?_take_of_lt hk, List.getElem?_eq_getElem (show j < L.length by omega), nth_lt (show j < L.length by omega)]
      rfl
    · rw [List.getElem?_append_right (by rw [hl]; omega), hl, List.getElem?_replicate, if_pos (by omega), nth_out (by have := h3 (by omega); omega)]
  · rw [List.getElem?_eq_none (by simp [hl]; omega), List.getElem?_eq_none (by simp; omega)]
theorem fill13 (o : Int) (L : List Int) {m : Nat} (hm : Nat.min L.length 12 = m) : splice ([.int .i64 o, .int .i64 0, .int .i64 0, .int .i64 0, .int .i64 0, .int .i64 0, .int .i64 0, .int .i64 0, .int .i64 0, .int .i64 0, .int .i64 0, .int .i64 0, .int .i64 0] : List Value) 1 (vals (L.take m)) = [.int .i64 o, .int .i64 (nth L 0), .int .i64 (nth L 1), .int .i64 (nth L 2), .int .i64 (nth L 3), .int .i64 (nth L 4), .int .i64 (nth L 5), .int .i64 (nth L 6), .int .i64 (nth L 7), .int .i64 (nth L 8), .int .i64 (nth L 9), .int .i64 (nth L 10), .int .i64 (nth L 11)] := by
  have h1 : m ≤ L.length := by rw [← hm]; exact Nat.min_le_left _ _
  have hl : (vals (L.take m)).length = m := by simp [vals]; omega
  have hd : ([.int .i64 o, .int .i64 0, .int .i64 0, .int .i64 0, .int .i64 0, .int .i64 0, .int .i64 0, .int .i64 0, .int .i64 0, .int .i64 0, .int .i64 0, .int .i64 0, .int .i64 0] : List Value).drop (1 + m) = List.replicate (12 - m) (Value.int .i64 0) := by
    rw [show ([.int .i64 o, .int .i64 0, .int .i64 0, .int .i64 0, .int .i64 0, .int .i64 0, .int .i64 0, .int .i64 0, .int .i64 0, .int .i64 0, .int .i64 0, .int .i64 0, .int .i64 0] : List Value) = Value.int .i64 o :: List.replicate 12 (Value.int .i64 0) from rfl, Nat.add_comm, List.drop_succ_cons, List.drop_replicate]
  unfold splice
  rw [hl, hd]
  show Value.int .i64 o :: (vals (L.take m) ++ List.replicate (12 - m) (Value.int .i64 0)) = _
  rw [pad12 L hm]
  rfl
theorem vals_one (L : List Int) : ∀ v ∈ vals L, v.oneCell' = true := by
  intro v hv
  obtain ⟨x, _, rfl⟩ := List.mem_map.1 hv
  rfl
theorem src_of_ints {w : World} {sa : Option Addr} {L : List Int} {m : Nat} (h : Ints w sa L) (hm : m ≤ L.length) (h0 : 0 < (vals (L.take m)).length) : ∃ ad, sa = some ad ∧ ∀ j v, (vals (L.take m))[j]? = some v → w.cell? (ad.add j) = some v := by
  rcases h with h | ⟨b, o, rfl, hc⟩
  · subst h; simp [vals] at h0
  · refine ⟨_, rfl, fun j v hj => ?_⟩
    obtain ⟨h1, rfl⟩ := vals_get _ hj
    have h2 : j < m := by simp at h1; omega
    rw [WideShapes.add_plain, hc j (by omega)]
    rw [nth_lt h1, nth_lt (by omega)]
    simp
theorem concat_eq (a : Option Addr) (pss : List (List Int)) (c : Nat) (L : List Int) (w : World) (hL : pss.flatten = L) (hr : Rows2 w a pss) (hp : pss.length ≤ 10) (hl : ∀ r, r < pss.length → (nthL pss r).length ≤ 1000) :
    Calls Try.prog 79 #[.slice a pss.length c] w (GivesInts w L) := by
  subst hL; exact concat_any a pss c w hr hp hl

set_option maxRecDepth 100000 in
set_option maxHeartbeats 2000000 in
theorem newRow_any (o : Int) (a : Option Addr) (pss : List (List Int)) (c : Nat) (L : List Int) (w : World) (hL : pss.flatten = L) (hr : Rows2 w a pss) (hp : pss.length ≤ 10) (hl : ∀ r, r < pss.length → (nthL pss r).length ≤ 1000) :
    Calls Try.prog 94 #[.int .i64 o, .slice a pss.length c] w fun e w' => e = .returned (.agg #[.int .i64 o, .int .i64 (nth L 0), .int .i64 (nth L 1), .int .i64 (nth L 2), .int .i64 (nth L 3), .int .i64 (nth L 4), .int .i64 (nth L 5), .int .i64 (nth L 6), .int .i64 (nth L 7), .int .i64 (nth L 8), .int .i64 (nth L 9), .int .i64 (nth L 10), .int .i64 (nth L 11)]) ∧ Below w.heap.size w w' := by
  obtain ⟨i0, hi, hz0, hz1, hz2⟩ := info_parts Try.infoInt64
  obtain ⟨m, hm⟩ : ∃ m, Nat.min L.length 12 = m := ⟨_, rfl⟩
  have hm1 : m ≤ L.length := by rw [← hm]; exact Nat.min_le_left _ _
  have hm2 : m ≤ 12 := by rw [← hm]; exact Nat.min_le_right _ _
  have HM := Lib.hid hm
  have HFL := Lib.hid (fill13 o L hm)
  have HR := Lib.hid hr
  have HC := Lib.hid (fun W (h : Rows2 W a pss) => concat_eq a pss c L W hL h hp hl)
  clear hm hr hl hL
  go_enter Try.func94, Try.ntmps94
  go_wp2_with fail
  have hb2 : Below w.heap.size w ((w.alloc (.cells #[.int .i64 0, .int .i64 0, .int .i64 0, .int .i64 0, .int .i64 0, .int .i64 0, .int .i64 0, .int .i64 0, .int .i64 0, .int .i64 0, .int .i64 0, .int .i64 0, .int .i64 0] 139)).alloc (.cells #[.int .i64 o, .int .i64 0, .int .i64 0, .int .i64 0, .int .i64 0, .int .i64 0, .int .i64 0, .int .i64 0, .int .i64 0, .int .i64 0, .int .i64 0, .int .i64 0, .int .i64 0] 139)) := ((Below.refl w.heap.size w).alloc (Nat.le_refl _) _).alloc (by simp) _
  have hz : Boxes ((w.alloc (.cells #[.int .i64 0, .int .i64 0, .int .i64 0, .int .i64 0, .int .i64 0, .int .i64 0, .int .i64 0, .int .i64 0, .int .i64 0, .int .i64 0, .int .i64 0, .int .i64 0, .int .i64 0] 139)).alloc (.cells #[.int .i64 o, .int .i64 0, .int .i64 0, .int .i64 0, .int .i64 0, .int .i64 0, .int .i64 0, .int .i64 0, .int .i64 0, .int .i64 0, .int .i64 0, .int .i64 0, .int .i64 0] 139)) w.heap.size 139 #[.int .i64 0, .int .i64 0, .int .i64 0, .int .i64 0, .int .i64 0, .int .i64 0, .int .i64 0, .int .i64 0, .int .i64 0, .int .i64 0, .int .i64 0, .int .i64 0, .int .i64 0] := Boxes.step (World.alloc_heap_new w _) ((Below.refl _ _).alloc (Nat.le_refl _) _)
  have hx : Boxes ((w.alloc (.cells #[.int .i64 0, .int .i64 0, .int .i64 0, .int .i64 0, .int .i64 0, .int .i64 0, .int .i64 0, .int .i64 0, .int .i64 0, .int .i64 0, .int .i64 0, .int .i64 0, .int .i64 0] 139)).alloc (.cells #[.int .i64 o, .int .i64 0, .int .i64 0, .int .i64 0, .int .i64 0, .int .i64 0, .int .i64 0, .int .i64 0, .int .i64 0, .int .i64 0, .int .i64 0, .int .i64 0, .int .i64 0] 139)) (w.heap.size + 1) 139 #[.int .i64 o, .int .i64 0, .int .i64 0, .int .i64 0, .int .i64 0, .int .i64 0, .int .i64 0, .int .i64 0, .int .i64 0, .int .i64 0, .int .i64 0, .int .i64 0, .int .i64 0] := by
    have : Boxes ((w.alloc (.cells #[.int .i64 0, .int .i64 0, .int .i64 0, .int .i64 0, .int .i64 0, .int .i64 0, .int .i64 0, .int .i64 0, .int .i64 0, .int .i64 0, .int .i64 0, .int .i64 0, .int .i64 0] 139)).alloc (.cells #[.int .i64 o, .int .i64 0, .int .i64 0, .int .i64 0, .int .i64 0, .int .i64 0, .int .i64 0, .int .i64 0, .int .i64 0, .int .i64 0, .int .i64 0, .int .i64 0, .int .i64 0] 139)) (w.alloc (.cells #[.int .i64 0, .int .i64 0, .int .i64 0, .int .i64 0, .int .i64 0, .int .i64 0, .int .i64 0, .int .i64 0, .int .i64 0, .int .i64 0, .int .i64 0, .int .i64 0, .int .i64 0] 139)).heap.size 139 #[.int .i64 o, .int .i64 0, .int .i64 0, .int .i64 0, .int .i64 0, .int .i64 0, .int .i64 0, .int .i64 0, .int .i64 0, .int .i64 0, .int .i64 0, .int .i64 0, .int .i64 0] := World.alloc_heap_new _ _
    simp only [World.size_alloc] at this
    exact this
  generalize ((w.alloc (.cells #[.int .i64 0, .int .i64 0, .int .i64 0, .int .i64 0, .int .i64 0, .int .i64 0, .int .i64 0, .int .i64 0, .int .i64 0, .int .i64 0, .int .i64 0, .int .i64 0, .int .i64 0] 139)).alloc (.cells #[.int .i64 o, .int .i64 0, .int .i64 0, .int .i64 0, .int .i64 0, .int .i64 0, .int .i64 0, .int .i64 0, .int .i64 0, .int .i64 0, .int .i64 0, .int .i64 0, .int .i64 0] 139)) = w2 at *
  have HB2 := Lib.hid hb2
  have HZ := Lib.hid hz
  have HX := Lib.hid hx
  have HR2 := Lib.hid (HR.out.below hb2 (Nat.le_refl _))
  have hs2 : w.heap.size + 1 < w2.heap.size := hx.lt
  clear hb2 hz hx HR
  go_region_law (first | (go_simp; go_at_call 79; refine (HC.out _ (by first | exact HR2.out | exact HR2.out.below (drew_step _) (Nat.le_refl _))).mono ?_; rintro e w8 ⟨⟨v8, rfl, ho8⟩, hb8⟩; have HB8 := Lib.hid (show Below w2.heap.size w2 w8 by first | exact hb8 | exact (drew_step w2).trans hb8); obtain ⟨sa, sc, hv8⟩ := rowForm ho8; subst hv8; have I8 := Lib.hid (Ints_of_own ho8); have HX8 := Lib.hid (HX.out.step HB8.out); clear ho8 hb8) | (refine step_copy_many (by rfl) (.tmp 9) (.tmp 11) 35 35 (by rfl) 2 i0 1 Try.underlying35 hi hz1 (some ⟨w.heap.size + 1, 1, none⟩) sa 12 12 L.length sc (by simp [Act.eval]) (by simp [Act.eval]) (w.heap.size + 1) 1 [.int .i64 o, .int .i64 0, .int .i64 0, .int .i64 0, .int .i64 0, .int .i64 0, .int .i64 0, .int .i64 0, .int .i64 0, .int .i64 0, .int .i64 0, .int .i64 0, .int .i64 0] 139 HX8.out (vals (L.take m)) m HM.out (by simp [vals]; omega) (fun h0 => ⟨rfl, src_of_ints (by first | exact I8.out | exact I8.out.step (drew_step _)) hm1 h0⟩) (by simp [vals]; omega) (vals_one _) (w.heap.size + 1) w2 (by first | exact HB8.out.mono (by omega) | exact (HB8.out.mono (by omega)).drew) (Nat.le_refl _) ?_; intro w9 hg9 hb9))
  all_goals (
    have hx9 : Boxes w9 (w.heap.size + 1) 139 #[.int .i64 o, .int .i64 (nth L 0), .int .i64 (nth L 1), .int .i64 (nth L 2), .int .i64 (nth L 3), .int .i64 (nth L 4), .int .i64 (nth L 5), .int .i64 (nth L 6), .int .i64 (nth L 7), .int .i64 (nth L 8), .int .i64 (nth L 9), .int .i64 (nth L 10), .int .i64 (nth L 11)] := by
      have := hg9.out
      rw [HFL.out] at this
      exact this
    have hz9 : Boxes w9 w.heap.size 139 #[.int .i64 0, .int .i64 0, .int .i64 0, .int .i64 0, .int .i64 0, .int .i64 0, .int .i64 0, .int .i64 0, .int .i64 0, .int .i64 0, .int .i64 0, .int .i64 0, .int .i64 0] := (hb9.block w.heap.size (Nat.lt_succ_self _)).trans HZ.out
    have HB9 := Lib.hid (show Below w.heap.size w w9 from HB2.out.trans (hb9.mono (Nat.le_succ _)))
    have l9 := hx9.lt
    have k9 := hz9.lt
    have x0 : w9.cell? ⟨w.heap.size + 1, 0, none⟩ = some (.int .i64 o) := by rw [hx9.cell]; rfl
    have z0 : w9.cell? ⟨w.heap.size, 0, none⟩ = some (.int .i64 0) := by rw [hz9.cell]; rfl
    have f0 := hz9.frozen 0
    have x1 : w9.cell? ⟨w.heap.size + 1, 1, none⟩ = some (.int .i64 (nth L 0)) := by rw [hx9.cell]; rfl
    have z1 : w9.cell? ⟨w.heap.size, 1, none⟩ = some (.int .i64 0) := by rw [hz9.cell]; rfl
    have f1 := hz9.frozen 1
    have x2 : w9.cell? ⟨w.heap.size + 1, 2, none⟩ = some (.int .i64 (nth L 1)) := by rw [hx9.cell]; rfl
    have z2 : w9.cell? ⟨w.heap.size, 2, none⟩ = some (.int .i64 0) := by rw [hz9.cell]; rfl
    have f2 := hz9.frozen 2
    have x3 : w9.cell? ⟨w.heap.size + 1, 3, none⟩ = some (.int .i64 (nth L 2)) := by rw [hx9.cell]; rfl
    have z3 : w9.cell? ⟨w.heap.size, 3, none⟩ = some (.int .i64 0) := by rw [hz9.cell]; rfl
    have f3 := hz9.frozen 3
    have x4 : w9.cell? ⟨w.heap.size + 1, 4, none⟩ = some (.int .i64 (nth L 3)) := by rw [hx9.cell]; rfl
    have z4 : w9.cell? ⟨w.heap.size, 4, none⟩ = some (.int .i64 0) := by rw [hz9.cell]; rfl
    have f4 := hz9.frozen 4
    have x5 : w9.cell? ⟨w.heap.size + 1, 5, none⟩ = some (.int .i64 (nth L 4)) := by rw [hx9.cell]; rfl
    have z5 : w9.cell? ⟨w.heap.size, 5, none⟩ = some (.int .i64 0) := by rw [hz9.cell]; rfl
    have f5 := hz9.frozen 5
    have x6 : w9.cell? ⟨w.heap.size + 1, 6, none⟩ = some (.int .i64 (nth L 5)) := by rw [hx9.cell]; rfl
    have z6 : w9.cell? ⟨w.heap.size, 6, none⟩ = some (.int .i64 0) := by rw [hz9.cell]; rfl
    have f6 := hz9.frozen 6
    have x7 : w9.cell? ⟨w.heap.size + 1, 7, none⟩ = some (.int .i64 (nth L 6)) := by rw [hx9.cell]; rfl
    have z7 : w9.cell? ⟨w.heap.size, 7, none⟩ = some (.int .i64 0) := by rw [hz9.cell]; rfl
    have f7 := hz9.frozen 7
    have x8 : w9.cell? ⟨w.heap.size + 1, 8, none⟩ = some (.int .i64 (nth L 7)) := by rw [hx9.cell]; rfl
    have z8 : w9.cell? ⟨w.heap.size, 8, none⟩ = some (.int .i64 0) := by rw [hz9.cell]; rfl
    have f8 := hz9.frozen 8
    have x9 : w9.cell? ⟨w.heap.size + 1, 9, none⟩ = some (.int .i64 (nth L 8)) := by rw [hx9.cell]; rfl
    have z9 : w9.cell? ⟨w.heap.size, 9, none⟩ = some (.int .i64 0) := by rw [hz9.cell]; rfl
    have f9 := hz9.frozen 9
    have x10 : w9.cell? ⟨w.heap.size + 1, 10, none⟩ = some (.int .i64 (nth L 9)) := by rw [hx9.cell]; rfl
    have z10 : w9.cell? ⟨w.heap.size, 10, none⟩ = some (.int .i64 0) := by rw [hz9.cell]; rfl
    have f10 := hz9.frozen 10
    have x11 : w9.cell? ⟨w.heap.size + 1, 11, none⟩ = some (.int .i64 (nth L 10)) := by rw [hx9.cell]; rfl
    have z11 : w9.cell? ⟨w.heap.size, 11, none⟩ = some (.int .i64 0) := by rw [hz9.cell]; rfl
    have f11 := hz9.frozen 11
    have x12 : w9.cell? ⟨w.heap.size + 1, 12, none⟩ = some (.int .i64 (nth L 11)) := by rw [hx9.cell]; rfl
    have z12 : w9.cell? ⟨w.heap.size, 12, none⟩ = some (.int .i64 0) := by rw [hz9.cell]; rfl
    have f12 := hz9.frozen 12
    clear hg9 hb9 hx9 hz9
    go_wp2_with fail
    refine bodyPost_ret (v := .agg #[.int .i64 o, .int .i64 (nth L 0), .int .i64 (nth L 1), .int .i64 (nth L 2), .int .i64 (nth L 3), .int .i64 (nth L 4), .int .i64 (nth L 5), .int .i64 (nth L 6), .int .i64 (nth L 7), .int .i64 (nth L 8), .int .i64 (nth L 9), .int .i64 (nth L 10), .int .i64 (nth L 11)]) (by simp [results, Try.results94, go_sem, z0, z1, z2, z3, z4, z5, z6, z7, z8, z9, z10, z11, z12]) rfl ⟨rfl, ?_⟩
    exact (((((((((((((HB9.out.setCell (p := ⟨w.heap.size, 0, none⟩) (Nat.le_refl _) _).setCell (p := ⟨w.heap.size, 1, none⟩) (Nat.le_refl _) _).setCell (p := ⟨w.heap.size, 2, none⟩) (Nat.le_refl _) _).setCell (p := ⟨w.heap.size, 3, none⟩) (Nat.le_refl _) _).setCell (p := ⟨w.heap.size, 4, none⟩) (Nat.le_refl _) _).setCell (p := ⟨w.heap.size, 5, none⟩) (Nat.le_refl _) _).setCell (p := ⟨w.heap.size, 6, none⟩) (Nat.le_refl _) _).setCell (p := ⟨w.heap.size, 7, none⟩) (Nat.le_refl _) _).setCell (p := ⟨w.heap.size, 8, none⟩) (Nat.le_refl _) _).setCell (p := ⟨w.heap.size, 9, none⟩) (Nat.le_refl _) _).setCell (p := ⟨w.heap.size, 10, none⟩) (Nat.le_refl _) _).setCell (p := ⟨w.heap.size, 11, none⟩) (Nat.le_refl _) _).setCell (p := ⟨w.heap.size, 12, none⟩) (Nat.le_refl _) _))
end Go.Proofs.Ytnebkhelobpkpaa

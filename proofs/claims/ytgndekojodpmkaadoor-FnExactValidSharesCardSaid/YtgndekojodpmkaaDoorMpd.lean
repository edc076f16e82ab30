/- mapped of the program: a slice of numbers to elements, elements to numbers, elements to multiples; curve and list. -/
import Derived.Test.YtgndekojodpmkaaDoorGd
namespace Go.Proofs.YtgndekojodpmkaaDoor
open Go.RowKit Go.Deep
set_option linter.unusedVariables false

set_option maxRecDepth 100000 in
theorem list1_any (p v : Int) (w : World) : Calls Tryd.prog 97 #[.agg #[.int .i64 p, .int .i64 v]] w fun e w' => e = .returned (.int .i64 v) ∧ Below w.heap.size w w' := by
  go_enter Tryd.func97, Tryd.ntmps97
  go_wp2
  go_ret
  exact ⟨rfl, (Below.refl w.heap.size w).alloc (Nat.le_refl _) _⟩

set_option maxRecDepth 100000 in
set_option maxHeartbeats 1000000 in
theorem mapNum_any (p : Int) (a : Option Addr) (zs : List Int) (c : Nat) (w : World) (h : Ints w a zs) (hl : zs.length ≤ 1048576) :
    Calls Tryd.prog 87 #[.slice a zs.length c, .func (.func 52) #[.int .i64 p] #[]] w fun e w' => (∃ v, e = .returned v ∧ OwnN w' w.heap.size p v (zs.map id)) ∧ Below w.heap.size w w' := by
  have HI := Lib.hid h
  clear h
  obtain ⟨i0, hi, hz0, hz1, hz2⟩ := info_parts Tryd.infoNum
  go_enter Tryd.func87, Tryd.ntmps87
  go_wp2_with (at_make; refine wpList_make_own _ rfl _ _ 83 rfl w.heap.size 82 i0 (.agg #[.int .i64 0, .int .i64 0]) 2 Tryd.underlying83 hi hz0 hz1 _ _ _ zs.length rfl rfl rfl (by rw [hz2]; omega) (by unfold maxLen; omega) (Nat.le_refl _) ?_; intro w4 hown hgrow)
  have hb4 := (Below.refl w.heap.size w).grown hgrow (Nat.le_refl _) (fun q hq => by cases hq)
  have HOW := Lib.hid (show OwnN w4 w.heap.size p (.slice (some ⟨w.heap.size, 0, none⟩) 0 zs.length) ((zs.take 0).map id) from hown)
  have HB4 := Lib.hid hb4
  clear hown hgrow hb4
  generalize (Value.slice (some ⟨w.heap.size, 0, none⟩) 0 zs.length) = r0 at *
  go_loopw [5, 7, 13] (fun q5 q7 i wr => ∃ (j : Nat), j ≤ zs.length ∧ i = .int .i64 j ∧ OwnN wr w.heap.size p q5 ((zs.take j).map id) ∧ Below w.heap.size w wr)
    (fun _ _ i _ => zs.length - (intOf i).toNat)
  case atStart => exact ⟨0, Nat.zero_le _, rfl, HOW.out, HB4.out⟩
  case round =>
    obtain ⟨j, hj, rfl, ho, hb⟩ := hrel
    have hsz := hb.size
    have HO := Lib.hid ho
    have HB := Lib.hid hb
    clear ho hb HOW HB4
    by_cases hltj : j < zs.length
    · rcases HI.out.below HB.out (Nat.le_refl _) with h | ⟨b2, o2, rfl, hc⟩
      · rw [h] at hltj; exact absurd hltj (Nat.not_lt_zero _)
      have hcj := hc j hltj
      have hj0 : (j : Int) < (zs.length : Int) := by omega
      have HT1 := Lib.hid (take_snoc1 zs hltj)
      have hlen : ((zs.take j).map id).length = j := by rw [List.length_map, List.length_take]; omega
      have HLN := Lib.hid hlen
      generalize nth zs j = x at *
      clear hc hlen
      go_wp2_with fail
      refine (number_any p x _).mono ?_
      rintro e w5 ⟨rfl, hb5⟩
      have HB6 := Lib.hid (hb5)
      have HO5 := Lib.hid (HO.out.step (hb5))
      have HB5 := Lib.hid (HB.out.trans (HB6.out.mono hsz))
      have hsz5 := HB5.out.size
      clear hb5
      go_wp2_with (at_builtin; refine wpList_append_own _ rfl _ _ 83 rfl w.heap.size 82 i0 (.agg #[.int .i64 0, .int .i64 0]) 2 16 Tryd.underlying83 hi hz0 hz1 hz2 rfl (by decide) _ _ _ rfl (World.ownsRow.alloc HO5.out _) ⟨w5.heap.size, 0, none⟩ 1 1 [.int .i64 p, .int .i64 x] rfl rfl (cell_two_new _ _ _ _) (by simp [Value.oneCell']) (by rw [HLN.out]; unfold maxLen; omega) (by rw [HLN.out]; omega) (by simp; omega) ?_; intro v' w6 hown6 hgrow6 _)
      have H6 := Lib.hid (show OwnN w6 w.heap.size p v' ((zs.take (j + 1)).map id) by
        rw [HT1.out, List.map_append]; unfold OwnN; rw [List.map_cons, List.map_nil, numCells_snoc, List.length_append]; exact hown6)
      have HB7 := Lib.hid ((HB5.out.alloc hsz5 (.cells #[.int .i64 p, .int .i64 x] 82)).grown hgrow6 (by simp; omega) (fun q hq => (row_lt HO5.out hq).1))
      clear hown6 hgrow6
      go_wp2
      go_roundw
      case rel => exact ⟨j + 1, by omega, by go_num, H6.out, HB7.out⟩
      case measure => simp [intOf]; omega
    · have HE := Lib.hid (show zs.take j = zs from List.take_of_length_le (by omega))
      go_wp2
      go_ret
      have := HO.out
      rw [HE.out] at this
      exact ⟨⟨_, rfl, this⟩, HB.out⟩

set_option maxRecDepth 100000 in
set_option maxHeartbeats 1000000 in
theorem mapList_any (p : Int) (a : Option Addr) (zs : List Int) (c : Nat) (w : World) (h : Nums w a p zs) (hl : zs.length ≤ 1048576) :
    Calls Tryd.prog 96 #[.slice a zs.length c, .func (.func 97) #[] #[]] w fun e w' => (∃ v, e = .returned v ∧ OwnI w' w.heap.size v (zs.map id)) ∧ Below w.heap.size w w' := by
  have HI := Lib.hid h
  clear h
  obtain ⟨i0, hi, hz0, hz1, hz2⟩ := info_parts Tryd.infoInt64
  go_enter Tryd.func96, Tryd.ntmps96
  go_wp2_with (at_make; refine wpList_make_own _ rfl _ _ 22 rfl w.heap.size 2 i0 (.int .i64 0) 1 Tryd.underlying22 hi hz0 hz1 _ _ _ zs.length rfl rfl rfl (by rw [hz2]; omega) (by unfold maxLen; omega) (Nat.le_refl _) ?_; intro w4 hown hgrow)
  have hb4 := (Below.refl w.heap.size w).grown hgrow (Nat.le_refl _) (fun q hq => by cases hq)
  have HOW := Lib.hid (show OwnI w4 w.heap.size (.slice (some ⟨w.heap.size, 0, none⟩) 0 zs.length) ((zs.take 0).map id) from hown)
  have HB4 := Lib.hid hb4
  clear hown hgrow hb4
  generalize (Value.slice (some ⟨w.heap.size, 0, none⟩) 0 zs.length) = r0 at *
  go_loopw [5, 7, 13] (fun q5 q7 i wr => ∃ (j : Nat), j ≤ zs.length ∧ i = .int .i64 j ∧ OwnI wr w.heap.size q5 ((zs.take j).map id) ∧ Below w.heap.size w wr)
    (fun _ _ i _ => zs.length - (intOf i).toNat)
  case atStart => exact ⟨0, Nat.zero_le _, rfl, HOW.out, HB4.out⟩
  case round =>
    obtain ⟨j, hj, rfl, ho, hb⟩ := hrel
    have hsz := hb.size
    have HO := Lib.hid ho
    have HB := Lib.hid hb
    clear ho hb HOW HB4
    by_cases hltj : j < zs.length
    · rcases HI.out.below HB.out (Nat.le_refl _) with h | ⟨b2, rfl, hc⟩
      · rw [h] at hltj; exact absurd hltj (Nat.not_lt_zero _)
      obtain ⟨hcj0, hcj1⟩ := hc j hltj
      have hlb := World.block_lt_of_cell? _ _ hcj0
      simp only at hlb
      have hj0 : (j : Int) < (zs.length : Int) := by omega
      have HT1 := Lib.hid (take_snoc1 zs hltj)
      have hlen : ((zs.take j).map id).length = j := by rw [List.length_map, List.length_take]; omega
      have HLN := Lib.hid hlen
      generalize nth zs j = x at *
      clear hc hlen
      go_wp2_with fail
      refine (list1_any p x _).mono ?_
      rintro e w5 ⟨rfl, hb5⟩
      have HB6 := Lib.hid (((Below.refl wr.heap.size wr).alloc (Nat.le_refl _) (.cells #[.int .i64 p, .int .i64 x] 82)).trans (hb5.mono (by simp)))
      have HO5 := Lib.hid (HO.out.step (((Below.refl wr.heap.size wr).alloc (Nat.le_refl _) (.cells #[.int .i64 p, .int .i64 x] 82)).trans (hb5.mono (by simp))))
      have HB5 := Lib.hid (HB.out.trans (HB6.out.mono hsz))
      have hsz5 := HB5.out.size
      clear hb5
      go_wp2_with (at_builtin; refine wpList_append_own _ rfl _ _ 22 rfl w.heap.size 2 i0 (.int .i64 0) 1 8 Tryd.underlying22 hi hz0 hz1 hz2 rfl (by decide) _ _ _ rfl (World.ownsRow.alloc HO5.out _) ⟨w5.heap.size, 0, none⟩ 1 1 [.int .i64 x] rfl rfl (cell_one_new _ _ _) (by simp [Value.oneCell']) (by rw [HLN.out]; unfold maxLen; omega) (by rw [HLN.out]; omega) (by simp; omega) ?_; intro v' w6 hown6 hgrow6 _)
      have H6 := Lib.hid (show OwnI w6 w.heap.size v' ((zs.take (j + 1)).map id) by
        rw [HT1.out, List.map_append]; unfold OwnI; rw [List.map_cons, List.map_nil, vals_snoc, List.length_append]; exact hown6)
      have HB7 := Lib.hid ((HB5.out.alloc hsz5 (.cells #[.int .i64 x] 2)).grown hgrow6 (by simp; omega) (fun q hq => (row_lt HO5.out hq).1))
      clear hown6 hgrow6
      go_wp2
      go_roundw
      case rel => exact ⟨j + 1, by omega, by go_num, H6.out, HB7.out⟩
      case measure => simp [intOf]; omega
    · have HE := Lib.hid (show zs.take j = zs from List.take_of_length_le (by omega))
      go_wp2
      go_ret
      have := HO.out
      rw [HE.out] at this
      exact ⟨⟨_, rfl, this⟩, HB.out⟩

set_option maxRecDepth 100000 in
set_option maxHeartbeats 1000000 in
theorem mapTimes_any (p f : Int) (a : Option Addr) (zs : List Int) (c : Nat) (w : World) (h : Nums w a p zs) (hl : zs.length ≤ 1048576) (hp : 2 ≤ p) (hp1 : p ≤ 31) (hf : Elem p f) (he : Elems p zs) :
    Calls Tryd.prog 98 #[.slice a zs.length c, .func (.func 89) #[.agg #[.int .i64 p, .int .i64 f]] #[]] w fun e w' => (∃ v, e = .returned v ∧ OwnN w' w.heap.size p v (zs.map (fun x => f * x % p))) ∧ Below w.heap.size w w' := by
  have HI := Lib.hid h
  clear h
  obtain ⟨i0, hi, hz0, hz1, hz2⟩ := info_parts Tryd.infoNum
  go_enter Tryd.func98, Tryd.ntmps98
  go_wp2_with (at_make; refine wpList_make_own _ rfl _ _ 83 rfl w.heap.size 82 i0 (.agg #[.int .i64 0, .int .i64 0]) 2 Tryd.underlying83 hi hz0 hz1 _ _ _ zs.length rfl rfl rfl (by rw [hz2]; omega) (by unfold maxLen; omega) (Nat.le_refl _) ?_; intro w4 hown hgrow)
  have hb4 := (Below.refl w.heap.size w).grown hgrow (Nat.le_refl _) (fun q hq => by cases hq)
  have HOW := Lib.hid (show OwnN w4 w.heap.size p (.slice (some ⟨w.heap.size, 0, none⟩) 0 zs.length) ((zs.take 0).map (fun x => f * x % p)) from hown)
  have HB4 := Lib.hid hb4
  clear hown hgrow hb4
  generalize (Value.slice (some ⟨w.heap.size, 0, none⟩) 0 zs.length) = r0 at *
  go_loopw [5, 7, 13] (fun q5 q7 i wr => ∃ (j : Nat), j ≤ zs.length ∧ i = .int .i64 j ∧ OwnN wr w.heap.size p q5 ((zs.take j).map (fun x => f * x % p)) ∧ Below w.heap.size w wr)
    (fun _ _ i _ => zs.length - (intOf i).toNat)
  case atStart => exact ⟨0, Nat.zero_le _, rfl, HOW.out, HB4.out⟩
  case round =>
    obtain ⟨j, hj, rfl, ho, hb⟩ := hrel
    have hsz := hb.size
    have HO := Lib.hid ho
    have HB := Lib.hid hb
    clear ho hb HOW HB4
    by_cases hltj : j < zs.length
    · rcases HI.out.below HB.out (Nat.le_refl _) with h | ⟨b2, rfl, hc⟩
      · rw [h] at hltj; exact absurd hltj (Nat.not_lt_zero _)
      obtain ⟨hcj0, hcj1⟩ := hc j hltj
      have hlb := World.block_lt_of_cell? _ _ hcj0
      simp only at hlb
      have hj0 : (j : Int) < (zs.length : Int) := by omega
      have HT1 := Lib.hid (take_snoc1 zs hltj)
      have hlen : ((zs.take j).map (fun x => f * x % p)).length = j := by rw [List.length_map, List.length_take]; omega
      have HLN := Lib.hid hlen
      have hx := he j hltj
      generalize nth zs j = x at *
      clear hc hlen
      go_wp2_with fail
      refine (times_any p f x _ hp hp1 hf hx).mono ?_
      rintro e w5 ⟨rfl, hb5⟩
      have HB6 := Lib.hid (((Below.refl wr.heap.size wr).alloc (Nat.le_refl _) (.cells #[.int .i64 p, .int .i64 x] 82)).trans (hb5.mono (by simp)))
      have HO5 := Lib.hid (HO.out.step (((Below.refl wr.heap.size wr).alloc (Nat.le_refl _) (.cells #[.int .i64 p, .int .i64 x] 82)).trans (hb5.mono (by simp))))
      have HB5 := Lib.hid (HB.out.trans (HB6.out.mono hsz))
      have hsz5 := HB5.out.size
      clear hb5
      go_wp2_with (at_builtin; refine wpList_append_own _ rfl _ _ 83 rfl w.heap.size 82 i0 (.agg #[.int .i64 0, .int .i64 0]) 2 16 Tryd.underlying83 hi hz0 hz1 hz2 rfl (by decide) _ _ _ rfl (World.ownsRow.alloc HO5.out _) ⟨w5.heap.size, 0, none⟩ 1 1 [.int .i64 p, .int .i64 (f * x % p)] rfl rfl (cell_two_new _ _ _ _) (by simp [Value.oneCell']) (by rw [HLN.out]; unfold maxLen; omega) (by rw [HLN.out]; omega) (by simp; omega) ?_; intro v' w6 hown6 hgrow6 _)
      have H6 := Lib.hid (show OwnN w6 w.heap.size p v' ((zs.take (j + 1)).map (fun x => f * x % p)) by
        rw [HT1.out, List.map_append]; unfold OwnN; rw [List.map_cons, List.map_nil, numCells_snoc, List.length_append]; exact hown6)
      have HB7 := Lib.hid ((HB5.out.alloc hsz5 (.cells #[.int .i64 p, .int .i64 (f * x % p)] 82)).grown hgrow6 (by simp; omega) (fun q hq => (row_lt HO5.out hq).1))
      clear hown6 hgrow6
      go_wp2
      go_roundw
      case rel => exact ⟨j + 1, by omega, by go_num, H6.out, HB7.out⟩
      case measure => simp [intOf]; omega
    · have HE := Lib.hid (show zs.take j = zs from List.take_of_length_le (by omega))
      go_wp2
      go_ret
      have := HO.out
      rw [HE.out] at this
      exact ⟨⟨_, rfl, this⟩, HB.out⟩

set_option maxRecDepth 100000 in
theorem curve_any (p : Int) (a : Option Addr) (zs : List Int) (c : Nat) (w : World) (h : Ints w a zs) (hl : zs.length ≤ 1048576) :
    Calls Tryd.prog 50 #[.int .i64 p, .slice a zs.length c] w fun e w' => (∃ v, e = .returned v ∧ OwnN w' w.heap.size p v zs) ∧ Below w.heap.size w w' := by
  have hmf : ∀ (fn : Fn) (first cap : Array Value) (w : World), (Instr.makeFunc fn first cap).run Tryd.prog w = .ok (.func fn first cap) w := fun _ _ _ _ => rfl
  go_enter Tryd.func50, Tryd.ntmps50
  go_wp2_with fail
  refine (mapNum_any p a zs c _ h hl).mono ?_
  rintro e w' ⟨⟨v, rfl, ho⟩, hb⟩
  rw [List.map_id] at ho
  have HO := Lib.hid ho
  clear ho
  go_wp2_with fail
  go_ret
  exact ⟨⟨v, rfl, HO.out⟩, hb⟩
set_option maxRecDepth 100000 in
theorem list_any (p : Int) (a : Option Addr) (zs : List Int) (c : Nat) (w : World) (h : Nums w a p zs) (hl : zs.length ≤ 1048576) :
    Calls Tryd.prog 63 #[.slice a zs.length c] w fun e w' => (∃ v, e = .returned v ∧ OwnI w' w.heap.size v zs) ∧ Below w.heap.size w w' := by
  go_enter Tryd.func63, Tryd.ntmps63
  go_wp2_with fail
  refine (mapList_any p a zs c _ h hl).mono ?_
  rintro e w' ⟨⟨v, rfl, ho⟩, hb⟩
  rw [List.map_id] at ho
  have HO := Lib.hid ho
  clear ho
  go_wp2_with fail
  go_ret
  exact ⟨⟨v, rfl, HO.out⟩, hb⟩
end Go.Proofs.YtgndekojodpmkaaDoor

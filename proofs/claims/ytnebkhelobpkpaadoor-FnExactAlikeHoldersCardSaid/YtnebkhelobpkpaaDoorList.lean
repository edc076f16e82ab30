/- The contracts of a group's list: has, size, list; the model's l01Of. -/
import Derived.Test.YtnebkhelobpkpaaDoorSet
namespace Go.Proofs.YtnebkhelobpkpaaDoor
open Go.RowKit Go.Deep
set_option linter.unusedVariables false

def listTo (x k : Nat) : List Int := ((List.range k).filter fun i => x.testBit i).map fun (i : Nat) => (i : Int)
def listOf (x : Nat) : List Int := listTo x 7
theorem listTo_hit {x k : Nat} (h : x.testBit k = true) : listTo x (k + 1) = listTo x k ++ [(k : Int)] := by
  simp [listTo, List.range_succ, List.filter_append, h]
theorem listTo_miss {x k : Nat} (h : x.testBit k = false) : listTo x (k + 1) = listTo x k := by
  simp [listTo, List.range_succ, List.filter_append, h]
theorem listTo_len (x k : Nat) : (listTo x k).length ≤ k := by
  simp only [listTo, List.length_map]
  exact Nat.le_trans (List.length_filter_le _ _) (by simp)

/-- Numbers as values. -/
def vals (zs : List Int) : List Value := zs.map (Value.int .i64)
/-- A slice of numbers that a call has made. -/
def OwnI (w : World) (base : Nat) (v : Value) (zs : List Int) : Prop := w.ownsRow base 2 1 v zs.length (vals zs)

set_option maxRecDepth 100000 in
theorem ones_any (x : Nat) (w : World) (h : x < 128) : Calls Tryd.prog 132 #[.int .u64 x] w fun e w' => e = .returned (.int .i64 ((listOf x).length : Nat)) ∧ w = w' := by
  go_enter Tryd.func132, Tryd.ntmps132
  go_wp2
  go_ret
  refine ⟨ret_i64 ?_, rfl⟩
  clear w
  revert x
  decide +kernel
theorem has_fact : ∀ x : Nat, x < 128 → ∀ n : Nat, n < 7 → (bits BinOp.and IntKind.u64 ((x : Int) / 2 ^ n) 1 == 1) = x.testBit n := by decide +kernel
set_option maxRecDepth 100000 in
theorem has_any (x : Nat) (h : Int) (w : World) (hx : x < 128) (h0 : 0 ≤ h) (h1 : h ≤ 6) : Calls Tryd.prog 96 #[.int .u64 x, .int .i64 h] w fun e w' => e = .returned (.bool (x.testBit h.toNat)) ∧ w = w' := by
  go_enter Tryd.func96, Tryd.ntmps96
  go_wp2
  go_ret
  exact ⟨ret_bool (has_fact x hx h.toNat (by omega)), rfl⟩
set_option maxRecDepth 100000 in
theorem size_any (x : Nat) (w : World) (h : x < 128) : Calls Tryd.prog 95 #[.int .u64 x] w fun e w' => e = .returned (.int .i64 ((listOf x).length : Nat)) ∧ w = w' := by
  go_enter Tryd.func95, Tryd.ntmps95
  go_wp2_with fail
  refine (ones_any x w h).mono ?_
  rintro e w' ⟨rfl, rfl⟩
  go_wp2_with fail
  go_ret
  exact ⟨ret_i64 (by simp), rfl⟩

/-- What gives a slice of numbers of its own. -/
structure GivesInts (W : World) (zs : List Int) (e : Ending) (w' : World) : Prop where
  val : ∃ v, e = .returned v ∧ OwnI w' W.heap.size v zs
  below : Below W.heap.size W w'

theorem vals_snoc (zs : List Int) (z : Int) : vals (zs ++ [z]) = vals zs ++ [.int .i64 z] := by simp [vals]

set_option maxRecDepth 100000 in
set_option maxHeartbeats 400000 in
theorem list_any (x : Nat) (w : World) (hx : x < 128) : Calls Tryd.prog 54 #[.int .u64 x] w (GivesInts w (listOf x)) := by
  have hlen := listTo_len x 7
  obtain ⟨i0, hi, hz0, hz1, hz2⟩ := info_parts Tryd.infoInt64
  go_enter Tryd.func54, Tryd.ntmps54
  go_wp2_with fail
  refine (size_any x w hx).mono ?_
  rintro e w' ⟨rfl, rfl⟩
  go_wp2_with (at_make; refine wpList_make_own _ rfl _ _ 26 rfl w.heap.size 2 i0 (.int .i64 0) 1 Tryd.underlying26 hi hz0 hz1 _ _ _ (listOf x).length rfl rfl rfl (by rw [hz2]; unfold listOf; omega) (by unfold maxLen listOf; omega) (Nat.le_refl _) ?_; intro w1 hown hgrow)
  have hb1 := (Below.refl w.heap.size w).grown hgrow (Nat.le_refl _) (fun k hk => by cases hk)
  clear hgrow
  generalize (Value.slice (some ⟨w.heap.size, 0, none⟩) 0 (listOf x).length) = v0 at *
  go_loopw [3, 8] (fun v i wr => ∃ k : Nat, k ≤ 7 ∧ i = .int .i64 k ∧ OwnI wr w.heap.size v (listTo x k) ∧ Below w.heap.size w wr)
    (fun _ i _ => 7 - (intOf i).toNat)
  case atStart => exact ⟨0, by omega, rfl, hown, hb1⟩
  case round =>
    obtain ⟨k, hk, rfl, ho, hb⟩ := hrel
    have HO := Lib.hid ho
    have HB := Lib.hid hb
    have hszr := hb.size
    have hlk := listTo_len x k
    clear ho hb hown hb1
    by_cases hlt : k < 7
    · cases hbit : x.testBit k with
      | true =>
        have HT := Lib.hid hbit
        clear hbit
        go_wp2_with fail
        refine (has_any x k wr hx (by omega) (by omega)).mono ?_
        rintro e w' ⟨rfl, rfl⟩
        rw [Int.toNat_natCast, HT.out]
        go_wp2_with (at_builtin; refine wpList_append_own _ rfl _ _ 26 rfl w.heap.size 2 i0 (.int .i64 0) 1 8 Tryd.underlying26 hi hz0 hz1 hz2 rfl (by decide) _ _ _ rfl (World.ownsRow.alloc HO.out _) ⟨wr.heap.size, 0, none⟩ 1 1 [.int .i64 k] rfl rfl (cell_one_new _ _ _) (by simp [Value.oneCell']) (by unfold maxLen; omega) (by omega) (by simp; omega) ?_; intro v' w1 hown1 hgrow1 _)
        go_wp2
        go_roundw
        case rel =>
          refine ⟨k + 1, by omega, by go_num, ?_, ?_⟩
          · unfold OwnI; rw [listTo_hit HT.out, vals_snoc, List.length_append]; exact hown1
          · exact (HB.out.alloc hszr _).grown hgrow1 (by simp; omega) (fun q hq => (HO.out.lt q hq).1)
        case measure => simp [intOf]; omega
      | false =>
        have HT := Lib.hid hbit
        clear hbit
        go_wp2_with fail
        refine (has_any x k wr hx (by omega) (by omega)).mono ?_
        rintro e w' ⟨rfl, rfl⟩
        rw [Int.toNat_natCast, HT.out]
        go_wp2_with fail
        go_roundw
        case rel =>
          refine ⟨k + 1, by omega, by go_num, ?_, HB.out⟩
          rw [listTo_miss HT.out]; exact HO.out
        case measure => simp [intOf]; omega
    · have e7 : k = 7 := by omega
      have H7 := Lib.hid e7
      clear e7
      go_wp2
      go_ret
      refine ⟨⟨_, rfl, ?_⟩, HB.out⟩
      have := HO.out
      rw [H7.out] at this
      exact this

theorem of_fact : ∀ x : Nat, x < 128 → ∀ n : Nat, n < 7 → (bits BinOp.and IntKind.i64 ((x : Int) / 2 ^ n) 1 == 1) = x.testBit n := by decide +kernel
theorem div_pos_fact : ∀ x : Nat, x < 128 → ∀ n : Nat, n ≤ 7 → (0 < (x : Int) / 2 ^ n ↔ ∃ j, j < 7 ∧ n ≤ j ∧ x.testBit j = true) := by decide +kernel
theorem div_7 {x : Nat} (hx : x < 128) : ¬ 0 < (x : Int) / 2 ^ 7 := by
  rw [div_pos_fact x hx 7 (by omega)]
  rintro ⟨j, h1, h2, _⟩; omega
theorem listTo_done {x k : Nat} (hx : x < 128) (hk : k ≤ 7) (h : ¬ 0 < (x : Int) / 2 ^ k) : listTo x k = listOf x := by
  rw [div_pos_fact x hx k hk] at h
  have : ∀ d, k + d ≤ 7 → listTo x (k + d) = listTo x k := by
    intro d
    induction d with
    | zero => intro _; rfl
    | succ d ih =>
      intro hd
      rw [show k + (d + 1) = (k + d) + 1 by omega, listTo_miss, ih (by omega)]
      cases hb : x.testBit (k + d) with
      | false => rfl
      | true => exact absurd ⟨k + d, by omega, by omega, hb⟩ h
  have h2 := this (7 - k) (by omega)
  rw [show k + (7 - k) = 7 by omega] at h2
  exact h2.symm

end Go.Proofs.YtnebkhelobpkpaaDoor

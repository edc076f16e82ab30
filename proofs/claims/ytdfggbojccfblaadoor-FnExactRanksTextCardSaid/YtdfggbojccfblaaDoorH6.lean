/- The groups that the model lists. -/
import Derived.Test.YtdfggbojccfblaaDoorRvi
import Derived.Test.YtdfggbojccfblaaDoorGrpL
namespace Go.Proofs.YtdfggbojccfblaaDoor
open Go.RowKit Go.Deep Go.Shelf
set_option linter.unusedVariables false

theorem of5 : ∀ x : Nat, x < 32 → ∀ n : Nat, n < 5 → (bits BinOp.and IntKind.i64 ((x : Int) / 2 ^ n) 1 == 1) = x.testBit n := by decide +kernel
theorem listTo_5 : ∀ m : Nat, m ≤ 5 → ∀ x : Nat, x < 32 → x < 2 ^ m → listTo x m = listOf x := by decide +kernel
set_option maxRecDepth 100000 in
set_option maxHeartbeats 400000 in
theorem l06Holders_any (x m : Nat) (w : World) (hm : m ≤ 5) (hx : x < 2 ^ m) : Calls Tryd.prog 38 #[.int .i64 (x : Nat), .int .i64 (m : Nat)] w (GivesInts w (listOf x)) := by
  obtain ⟨i0, hi, hz0, hz1, hz2⟩ := info_parts Tryd.infoInt64
  have hx32 : x < 32 := Nat.lt_of_lt_of_le hx (pow5 hm)
  have HLT := Lib.hid (listTo_5 m hm x hx32 hx)
  clear hx
  go_enter Tryd.func38, Tryd.ntmps38
  go_wp2_with fail
  have hown : OwnI (w.alloc (.cells #[] 2)) w.heap.size (.slice (some ⟨w.heap.size, 0, none⟩) 0 0) [] := World.ownsRow_made w #[] 0 (Nat.le_refl _) (by unfold maxLen; omega) rfl
  have hb1 := (Below.refl w.heap.size w).alloc (Nat.le_refl _) (.cells #[] 2)
  generalize (Value.slice (some ⟨w.heap.size, 0, none⟩) 0 0) = v0 at *
  go_loopw [5, 6] (fun v i wr => ∃ k : Nat, k ≤ m ∧ i = .int .i64 k ∧ OwnI wr w.heap.size v (listTo x k) ∧ Below w.heap.size w wr)
    (fun _ i _ => m - (intOf i).toNat)
  case atStart => exact ⟨0, by omega, rfl, hown, hb1⟩
  case round =>
    obtain ⟨k, hk, rfl, ho, hb⟩ := hrel
    have HO := Lib.hid ho
    have HB := Lib.hid hb
    have hszr := hb.size
    have hlk := listTo_len x k
    clear ho hb hown hb1
    by_cases hlt : k < m
    · have hi0 : (k : Int) < (m : Int) := by omega
      have hof := of5 x hx32 k (by omega)
      cases hbit : x.testBit k with
      | true =>
        have HT := Lib.hid hbit
        rw [hbit] at hof
        clear hbit
        go_wp2_with (at_builtin; refine wpList_append_own _ rfl _ _ 22 rfl w.heap.size 2 i0 (.int .i64 0) 1 8 Tryd.underlying22 hi hz0 hz1 hz2 rfl (by decide) _ _ _ rfl (World.ownsRow.alloc HO.out _) ⟨wr.heap.size, 0, none⟩ 1 1 [.int .i64 k] rfl rfl (cell_one_new _ _ _) (by simp [Value.oneCell']) (by unfold maxLen; omega) (by omega) (by simp; omega) ?_; intro v' w1 hown1 hgrow1 _)
        go_wp2
        go_roundw
        case rel =>
          refine ⟨k + 1, by omega, by go_num, ?_, ?_⟩
          · unfold OwnI; rw [listTo_hit HT.out, vals_snoc, List.length_append]; exact hown1
          · exact (HB.out.alloc hszr _).grown hgrow1 (by simp; omega) (fun q hq => (World.ownsRow.lt HO.out q hq).1)
        case measure => simp [intOf]; omega
      | false =>
        have HT := Lib.hid hbit
        rw [hbit] at hof
        clear hbit
        go_wp2_with fail
        go_roundw
        case rel =>
          refine ⟨k + 1, by omega, by go_num, ?_, HB.out⟩
          rw [listTo_miss HT.out]; exact HO.out
        case measure => simp [intOf]; omega
    · have hi0 : ¬ (k : Int) < (m : Int) := by omega
      have HKM := Lib.hid (show k = m by omega)
      go_wp2_with fail
      go_ret
      refine ⟨⟨_, rfl, ?_⟩, HB.out⟩
      have := HO.out
      rw [HKM.out, HLT.out] at this
      exact this

theorem listOf_grp0 : ∀ m : Nat, m < 6 → ∀ k : Nat, k < 32 → k < 2 ^ m → ((List.range (listOf k).length).all fun i => decide (0 ≤ nth (listOf k) i) && decide (nth (listOf k) i ≤ (m : Int) - 1) && (i == 0 || decide (nth (listOf k) (i - 1) < nth (listOf k) i))) = true := by decide +kernel
theorem listOf_grp {m k : Nat} (hm : m ≤ 5) (hk : k < 2 ^ m) : IsGrp (m : Int) (listOf k) := fun i hi => by
  have h := listOf_grp0 m (by omega) k (Nat.lt_of_lt_of_le hk (pow5 hm)) hk
  have h2 := List.all_eq_true.1 h i (List.mem_range.2 hi)
  simp only [Bool.and_eq_true, Bool.or_eq_true, decide_eq_true_eq, beq_iff_eq] at h2
  exact ⟨h2.1.1, h2.1.2, fun h0 => by rcases h2.2 with q | q; omega; exact q⟩
end Go.Proofs.YtdfggbojccfblaaDoor

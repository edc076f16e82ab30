/- The contracts of a group's text: text, the program's GroupText. -/
import Derived.Test.YtnebkhelobpkpaaDoorText
import Derived.Test.YtnebkhelobpkpaaDoorGrpL
import Derived.Test.YtnebkhelobpkpaaDoorOwn
namespace Go.Proofs.YtnebkhelobpkpaaDoor
open Go.RowKit Go.Deep
set_option linter.unusedVariables false

theorem listOf_nil_fact : ∀ x : Nat, x < 128 → (listOf x = [] ↔ x = 0) := by decide +kernel
theorem listOf_range_fact : ∀ x : Nat, x < 128 → ∀ z ∈ listOf x, 0 ≤ z ∧ z ≤ 6 := by decide +kernel

set_option maxRecDepth 100000 in
set_option maxHeartbeats 800000 in
theorem implText_any (x : Nat) (w : World) (hx : x < 128) :
    Calls Tryd.prog 148 #[.int .u64 x] w fun e w' => e = .returned (.string (textOf (listOf x))) ∧ Below w.heap.size w w' := by
  obtain ⟨i0, hi, hz0, hz1, hz2⟩ := info_parts Tryd.infoUint8
  by_cases h0 : x = 0
  · subst h0
    go_enter Tryd.func148, Tryd.ntmps148
    go_wp2
    go_ret
    exact ⟨rfl, Below.refl _ _⟩
  · have t1 : ((x : Int) == 0) = false := by simp; omega
    have t2 : (x == 0) = false := by simp; omega
    have hne : listOf x ≠ [] := fun e => h0 ((listOf_nil_fact x hx).1 e)
    have hlen7 : (listOf x).length ≤ 7 := listTo_len x 7
    have HR := Lib.hid (listOf_range_fact x hx)
    clear h0
    go_enter Tryd.func148, Tryd.ntmps148
    go_wp2_with fail
    refine (list_any x w hx).mono ?_
    rintro e w1 ⟨⟨v, rfl, hv⟩, hb⟩
    obtain ⟨a, c, rfl, hi1, _⟩ := hv.ints
    have HB0 := Lib.hid hb
    have HI1 := Lib.hid hi1
    have HN := Lib.hid hne
    clear hb hv hi1 hne
    generalize hL : listOf x = zs at *
    have HLX := Lib.hid hL
    clear hL
    go_wp2_with fail
    go_loopw [3, 11] (fun v i wr => ∃ k : Nat, k ≤ zs.length ∧ i = .int .i64 k ∧ OwnB wr w1.heap.size v (letters (zs.take k)) ∧ Below w1.heap.size w1 wr)
      (fun _ i _ => zs.length - (intOf i).toNat)
    case atStart => exact ⟨0, by omega, rfl, World.ownsRow_nil _ _ _ _, Below.refl _ _⟩
    case round =>
      obtain ⟨k, hk, rfl, ho, hbr⟩ := hrel
      have hir := HI1.out.below hbr (Nat.le_refl _)
      have HO := Lib.hid ho
      have HB := Lib.hid hbr
      have hszr := hbr.size
      clear ho hbr
      by_cases hlt : k < zs.length
      · rcases hir with h0 | ⟨b, o, rfl, hc⟩
        · rw [h0] at hlt; exact absurd hlt (Nat.not_lt_zero _)
        have g1 := hc k hlt
        have hi0 : (k : Int) < (zs.length : Int) := by omega
        have hzr := HR.out (nth zs k) (by rw [nth_lt hlt]; exact List.getElem_mem hlt)
        have hz0 := hzr.1
        have hz1 := hzr.2
        have hlb : (letters (zs.take k)).length ≤ 7 := by rw [letters_len zs hk]; omega
        have HC := Lib.hid hc
        clear hc hzr
        go_wp2_with (at_builtin; refine wpList_append_own _ rfl _ _ 210 rfl w1.heap.size 5 i0 (.int .u8 0) 1 1 Tryd.underlying210 hi (by assumption) (by assumption) (by assumption) rfl (by decide) _ _ _ rfl (World.ownsRow.alloc HO.out _) ⟨wr.heap.size, 0, none⟩ 1 1 [.int .u8 (65 + nth zs k)] rfl rfl (cell_one_new _ _ _) (by simp [Value.oneCell']) (by unfold maxLen; omega) (by omega) (by simp; omega) ?_; intro v' w2 hown1 hgrow1 _)
        go_wp2
        go_roundw
        case rel =>
          refine ⟨k + 1, by omega, by go_num, ?_, ?_⟩
          · unfold OwnB; rw [letters_take zs hlt, valsB_snoc, List.length_append]; exact hown1
          · exact (HB.out.alloc hszr _).grown hgrow1 (by simp; omega) (fun q hq => (HO.out.lt q hq).1)
        case measure => simp [intOf]; omega
      · have hfin := HO.out
        rw [show k = zs.length by omega, List.take_length] at hfin
        have HBF := Lib.hid (HB0.out.trans (HB.out.mono HB0.out.size))
        have hnl : letters zs ≠ [] := by have := HN.out; simp [letters, this]
        obtain ⟨a9, c9, rfl, hcv⟩ := hfin.string hnl
        have HGT := Lib.hid (show textOf zs = strOfNums (letters zs) by rw [textOf, if_neg HN.out])
        clear hfin hir HI1 HO hnl
        go_wp2_with fail
        go_ret
        exact ⟨by rw [HLX.out, HGT.out]; rfl, HBF.out⟩

end Go.Proofs.YtnebkhelobpkpaaDoor

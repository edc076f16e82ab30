/- slices.Concat of numbers. -/
import Derived.Test.YtnebkhelobpkpaaCc
namespace Go.Proofs.Ytnebkhelobpkpaa
open Go.RowKit Go.Deep Go.Joins Go.ChangeShapes Go.WideShapes Go.ChangeAt
set_option linter.unusedVariables false

theorem flat_take (pss : List (List Int)) {k : Nat} (h : k < pss.length) : (pss.take (k + 1)).flatten = (pss.take k).flatten ++ nthL pss k := by
  rw [take_snoc pss h, List.flatten_append]; simp
theorem flat_len (pss : List (List Int)) {m : Nat} (h : ∀ r, r < pss.length → (nthL pss r).length ≤ m) : ∀ k, k ≤ pss.length → (pss.take k).flatten.length ≤ k * m := by
  intro k
  induction k with
  | zero => intro _; simp
  | succ k ih =>
    intro hk
    rw [flat_take pss (by omega), List.length_append]
    have := ih (by omega)
    have := h k (by omega)
    rw [Nat.succ_mul]; omega

def flen (pss : List (List Int)) (k : Nat) : Nat := (pss.take k).flatten.length

set_option maxRecDepth 100000 in
set_option maxHeartbeats 600000 in
theorem concat_any (a : Option Addr) (pss : List (List Int)) (c : Nat) (w : World) (hr : Rows2 w a pss) (hp : pss.length ≤ 10) (hl : ∀ r, r < pss.length → (nthL pss r).length ≤ 1000) :
    Calls Try.prog 79 #[.slice a pss.length c] w (GivesInts w pss.flatten) := by
  obtain ⟨i0, hi, hz0, hz1, hz2⟩ := info_parts Try.infoInt64
  have HR := Lib.hid hr
  have HL := Lib.hid hl
  have HF := Lib.hid (flat_len pss hl)
  obtain ⟨N, hN⟩ : ∃ N, pss.flatten.length = N := ⟨_, rfl⟩
  have HN0 := Lib.hid hN
  clear hN
  clear hr hl
  go_enter Try.func79, Try.ntmps79
  go_wp2_with fail
  go_loop [3, 5, 11] (fun q3 q5 i => ∃ k : Nat, k ≤ pss.length ∧ i = .int .i64 k ∧ q3 = .int .i64 ((flen pss k : Nat) : Int))
    (fun _ _ i => pss.length - (intOf i).toNat)
  case atStart => exact ⟨0, Nat.zero_le _, rfl, by simp [flen]⟩
  case round =>
    obtain ⟨k, hk, rfl, rfl⟩ := hrel
    have hf1 : flen pss k ≤ 10000 := by have := HF.out k hk; unfold flen; omega
    by_cases hlt : k < pss.length
    · have HT := Lib.hid (show flen pss (k + 1) = flen pss k + (nthL pss k).length by unfold flen; rw [flat_take pss hlt, List.length_append])
      have hlk := HL.out k hlt
      generalize flen pss k = L at *
      rcases HR.out with h | ⟨b, o, rfl, hc⟩
      · rw [h] at hlt; exact absurd hlt (Nat.not_lt_zero _)
      obtain ⟨ai, ci, hcell, hints⟩ := hc k hlt
      have hi0 : (k : Int) < (pss.length : Int) := by omega
      generalize (nthL pss k).length = M at *
      have hnn : ¬ ((L : Int) + (M : Int) < 0) := by omega
      have hwr : IntKind.i64.wrap ((L : Int) + (M : Int)) = (L : Int) + (M : Int) := by rw [IntKind.wrap_i64] <;> omega
      clear hc hints
      go_wp2_with fail
      go_round
      case rel => exact ⟨k + 1, by omega, by go_num, by rw [HT.out]; go_num⟩
      case measure => simp [intOf]; omega
    · have HE := Lib.hid (show flen pss k = N by unfold flen; rw [List.take_of_length_le (by omega)]; exact HN0.out)
      rw [HE.out] at hf1 ⊢
      go_wp2_with fail
      refine (grow_any N w (by omega)).mono ?_
      rintro e w1 ⟨⟨v0, rfl, hown0⟩, hb0⟩
      have HO0 := Lib.hid hown0
      have HB0 := Lib.hid hb0
      clear hown0 hb0
      go_wp2_with fail
      go_loopw [6, 8, 27] (fun q6 q8 i wr => ∃ k : Nat, k ≤ pss.length ∧ i = .int .i64 k ∧ OwnI wr w.heap.size q6 (pss.take k).flatten ∧ Below w.heap.size w wr)
        (fun _ _ i _ => pss.length - (intOf i).toNat)
      case atStart => exact ⟨0, Nat.zero_le _, rfl, by simpa using HO0.out, HB0.out⟩
      case round =>
        obtain ⟨k, hk, rfl, ho, hb⟩ := hrel
        have HO := Lib.hid ho
        have HB := Lib.hid hb
        have hsz := hb.size
        clear ho hb HO0 HB0
        by_cases hlt : k < pss.length
        · rcases HR.out.below HB.out (Nat.le_refl _) with h | ⟨b, o, rfl, hc⟩
          · rw [h] at hlt; exact absurd hlt (Nat.not_lt_zero _)
          obtain ⟨ai, ci, hcell, hints⟩ := hc k hlt
          have hi0 : (k : Int) < (pss.length : Int) := by omega
          have HT := Lib.hid (flat_take pss hlt)
          have hlk := HL.out k hlt
          have hff := HF.out k hk
          have hff1 : (pss.take k).flatten.length ≤ 10000 := by omega
          generalize nthL pss k = row at *
          clear hc hff
          cases ai with
          | none =>
            have hz : row = [] := by
              rcases hints with h | ⟨b, o, e, _⟩
              · exact h
              · cases e
            subst hz
            go_wp2_with (at_builtin; refine wpList_append_none_c rfl _ _ 35 rfl w.heap.size 2 i0 1 Try.underlying35 hi _ _ _ ci rfl HO.out rfl ?_)
            go_wp2_with fail
            go_roundw
            case rel => exact ⟨k + 1, by omega, by go_num, by rw [HT.out, List.append_nil]; exact HO.out, HB.out⟩
            case measure => simp [intOf]; omega
          | some ad =>
            have hnews : ∀ j u, (vals row)[j]? = some u → wr.cell? (ad.add j) = some u := fun j u hj => by
              obtain ⟨h1, rfl⟩ := vals_get row hj
              rcases hints with h | ⟨b, o, e, hc⟩
              · rw [h] at h1; exact absurd h1 (Nat.not_lt_zero _)
              · cases e
                rw [add_plain]; exact hc j h1
            have HN := Lib.hid hnews
            clear hnews hints
            go_wp2_with (at_builtin; refine wpList_append_own _ rfl _ _ 35 rfl w.heap.size 2 i0 (.int .i64 0) 1 8 Try.underlying35 hi hz0 hz1 hz2 rfl (by decide) _ _ _ rfl HO.out ad row.length ci (vals row) rfl (by simp [vals]) HN.out (by simp [vals, Value.oneCell']) (by unfold maxLen; omega) (by omega) hsz ?_; intro v' w6 hown6 hgrow6 _)
            have H6 := Lib.hid (show OwnI w6 w.heap.size v' (pss.take (k + 1)).flatten by
              rw [HT.out]; unfold OwnI; rw [List.length_append]; simpa [vals] using hown6)
            have HB6 := Lib.hid (HB.out.grown hgrow6 hsz (fun q hq => (HO.out.lt hq).1))
            clear hown6 hgrow6
            go_wp2_with fail
            go_roundw
            case rel => exact ⟨k + 1, by omega, by go_num, H6.out, HB6.out⟩
            case measure => simp [intOf]; omega
        · have HE2 := Lib.hid (show (pss.take k).flatten = pss.flatten by rw [List.take_of_length_le (by omega)])
          have ho := HO.out
          rw [HE2.out] at ho
          have HO9 := Lib.hid ho
          clear ho
          go_wp2_with fail
          go_ret
          exact ⟨⟨_, rfl, HO9.out⟩, HB.out⟩
end Go.Proofs.Ytnebkhelobpkpaa

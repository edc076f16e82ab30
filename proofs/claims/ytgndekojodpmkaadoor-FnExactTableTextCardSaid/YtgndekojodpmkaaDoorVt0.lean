/- Valid tables: what that is; slices.Min, slices.Max, isHead, isCase of the program. -/
import Derived.Test.YtgndekojodpmkaaDoorCml
import Derived.Test.YtgndekojodpmkaaDoorCmr
namespace Go.Proofs.YtgndekojodpmkaaDoor
open Go.RowKit Go.Deep
set_option linter.unusedVariables false

def SizesOk (yo : List Int) : Prop := ∀ j, j < yo.length → 1 ≤ nth yo j ∧ nth yo j ≤ 64
def HeadOk (h : Int) (yo : List Int) : Prop := (1 ≤ h ∧ h ≤ 64) ∧ (1 ≤ yo.length ∧ yo.length ≤ 7) ∧ SizesOk yo
def CaseOk (h : Int) (yo : List Int) (s : Int) (sh : List Int) : Prop := (0 ≤ s ∧ s < h) ∧ Under sh yo
/-- A valid table. -/
def TabOk (h : Int) (yo : List Int) (z : List (List Int)) : Prop := HeadOk h yo ∧ (1 ≤ z.length ∧ z.length ≤ 700) ∧ (∀ i, i < z.length → CaseOk h yo (sec z i) (shs z i)) ∧ ∀ i, i + 1 < z.length → ¬ Before (nthL z (i + 1)) (nthL z i)

set_option maxRecDepth 100000 in
theorem slicesMin_any (a : Option Addr) (xs : List Int) (c : Nat) (w : World) (ha : Ints w a xs) (hl : xs.length ≤ 9223372036854775807) (h1 : 1 ≤ xs.length) :
    Calls Tryd.prog 103 #[.slice a xs.length c] w fun e w' => (∃ v : Int, e = .returned (.int .i64 v) ∧ ∀ c : Int, c ≤ v ↔ ∀ j, j < xs.length → c ≤ nth xs j) ∧ w = w' := by
  rcases ha with h | ⟨b, o, rfl, hc⟩
  · rw [h] at h1; exact absurd h1 (by decide)
  have g0 : w.cell? ⟨b, o, none⟩ = some (.int .i64 (nth xs 0)) := hc 0 (by omega)
  have hp : (0 : Int) < (xs.length : Int) := by omega
  have HC := Lib.hid hc
  clear hc
  go_enter Tryd.func103, Tryd.ntmps103
  go_wp2
  go_loop [3, 4] (fun m i => ∃ (k : Nat) (v : Int), 1 ≤ k ∧ k ≤ xs.length ∧ i = .int .i64 k ∧ m = .int .i64 v ∧ ∀ c : Int, c ≤ v ↔ ∀ j, j < k → c ≤ nth xs j)
    (fun _ i => xs.length - (intOf i).toNat)
  case atStart => exact ⟨1, _, by omega, by omega, rfl, rfl, fun c => ⟨fun h j hj => by rw [show j = 0 by omega]; exact h, fun h => h 0 (by omega)⟩⟩
  case round =>
    obtain ⟨k, v, hk1, hk, rfl, rfl, hv⟩ := hrel
    have HV := Lib.hid hv
    clear hv
    by_cases hlt : k < xs.length
    · have g1 := HC.out k hlt
      have hi0 : (k : Int) < (xs.length : Int) := by omega
      by_cases hm : nth xs k < v
      · go_wp2
        go_round
        case rel => exact ⟨k + 1, nth xs k, by omega, by omega, by go_num, by simp, fun c => ⟨fun h j hj => by
            by_cases e : j = k
            · subst e; exact h
            · exact (HV.out c).1 (by omega) j (by omega), fun h => h k (by omega)⟩⟩
        case measure => simp [intOf]; omega
      · go_wp2
        go_round
        case rel => exact ⟨k + 1, v, by omega, by omega, by go_num, by simp, fun c => ⟨fun h j hj => by
            by_cases e : j = k
            · subst e; omega
            · exact (HV.out c).1 h j (by omega), fun h => (HV.out c).2 fun j hj => h j (by omega)⟩⟩
        case measure => simp [intOf]; omega
    · have HK := Lib.hid (show k = xs.length by omega)
      go_wp2
      go_ret
      exact ⟨⟨v, rfl, by rw [← HK.out]; exact HV.out⟩, rfl⟩
set_option maxRecDepth 100000 in
theorem slicesMax_any (a : Option Addr) (xs : List Int) (c : Nat) (w : World) (ha : Ints w a xs) (hl : xs.length ≤ 9223372036854775807) (h1 : 1 ≤ xs.length) :
    Calls Tryd.prog 104 #[.slice a xs.length c] w fun e w' => (∃ v : Int, e = .returned (.int .i64 v) ∧ ∀ c : Int, v ≤ c ↔ ∀ j, j < xs.length → nth xs j ≤ c) ∧ w = w' := by
  rcases ha with h | ⟨b, o, rfl, hc⟩
  · rw [h] at h1; exact absurd h1 (by decide)
  have g0 : w.cell? ⟨b, o, none⟩ = some (.int .i64 (nth xs 0)) := hc 0 (by omega)
  have hp : (0 : Int) < (xs.length : Int) := by omega
  have HC := Lib.hid hc
  clear hc
  go_enter Tryd.func104, Tryd.ntmps104
  go_wp2
  go_loop [3, 4] (fun m i => ∃ (k : Nat) (v : Int), 1 ≤ k ∧ k ≤ xs.length ∧ i = .int .i64 k ∧ m = .int .i64 v ∧ ∀ c : Int, v ≤ c ↔ ∀ j, j < k → nth xs j ≤ c)
    (fun _ i => xs.length - (intOf i).toNat)
  case atStart => exact ⟨1, _, by omega, by omega, rfl, rfl, fun c => ⟨fun h j hj => by rw [show j = 0 by omega]; exact h, fun h => h 0 (by omega)⟩⟩
  case round =>
    obtain ⟨k, v, hk1, hk, rfl, rfl, hv⟩ := hrel
    have HV := Lib.hid hv
    clear hv
    by_cases hlt : k < xs.length
    · have g1 := HC.out k hlt
      have hi0 : (k : Int) < (xs.length : Int) := by omega
      by_cases hm : v < nth xs k
      · go_wp2
        go_round
        case rel => exact ⟨k + 1, nth xs k, by omega, by omega, by go_num, by simp, fun c => ⟨fun h j hj => by
            by_cases e : j = k
            · subst e; exact h
            · exact (HV.out c).1 (by omega) j (by omega), fun h => h k (by omega)⟩⟩
        case measure => simp [intOf]; omega
      · go_wp2
        go_round
        case rel => exact ⟨k + 1, v, by omega, by omega, by go_num, by simp, fun c => ⟨fun h j hj => by
            by_cases e : j = k
            · subst e; omega
            · exact (HV.out c).1 h j (by omega), fun h => (HV.out c).2 fun j hj => h j (by omega)⟩⟩
        case measure => simp [intOf]; omega
    · have HK := Lib.hid (show k = xs.length by omega)
      go_wp2
      go_ret
      exact ⟨⟨v, rfl, by rw [← HK.out]; exact HV.out⟩, rfl⟩
set_option maxRecDepth 100000 in
set_option maxHeartbeats 400000 in
theorem isHead_any (h : Int) (a : Option Addr) (yo : List Int) (c : Nat) (w : World) (ha : Ints w a yo) (hl : yo.length ≤ 9223372036854775807) :
    Calls Tryd.prog 74 #[.int .i64 h, .slice a yo.length c] w fun e w' => e = .returned (.bool (tell (HeadOk h yo))) ∧ w = w' := by
  have HA := Lib.hid ha
  clear ha
  by_cases h1 : h < 1
  · have HN := Lib.hid (tell_false (p := HeadOk h yo) (fun q => by have := q.1.1; omega))
    go_enter Tryd.func74, Tryd.ntmps74
    go_wp2_with fail
    go_ret
    exact ⟨ret_bool HN.out.symm, rfl⟩
  by_cases h2 : 64 < h
  · have HN := Lib.hid (tell_false (p := HeadOk h yo) (fun q => by have := q.1.2; omega))
    go_enter Tryd.func74, Tryd.ntmps74
    go_wp2_with fail
    go_ret
    exact ⟨ret_bool HN.out.symm, rfl⟩
  by_cases h3 : (yo.length : Int) < 1
  · have HN := Lib.hid (tell_false (p := HeadOk h yo) (fun q => by have := q.2.1.1; omega))
    go_enter Tryd.func74, Tryd.ntmps74
    go_wp2_with fail
    go_ret
    exact ⟨ret_bool HN.out.symm, rfl⟩
  by_cases h4 : 7 < (yo.length : Int)
  · have HN := Lib.hid (tell_false (p := HeadOk h yo) (fun q => by have := q.2.1.2; omega))
    go_enter Tryd.func74, Tryd.ntmps74
    go_wp2_with fail
    go_ret
    exact ⟨ret_bool HN.out.symm, rfl⟩
  have h5 : 1 ≤ yo.length := by omega
  go_enter Tryd.func74, Tryd.ntmps74
  go_wp2_with fail
  refine (slicesMin_any a yo c w HA.out hl h5).mono ?_
  rintro e w1 ⟨⟨v, rfl, hv⟩, rfl⟩
  have HV := Lib.hid hv
  clear hv
  by_cases hm : 1 ≤ v
  case neg =>
    have t1 : decide (1 ≤ v) = false := by simp [hm]
    have HN := Lib.hid (tell_false (p := HeadOk h yo) (fun q => hm ((HV.out 1).2 fun j hj => (q.2.2 j hj).1)))
    go_wp2_with fail
    go_ret
    exact ⟨ret_bool HN.out.symm, rfl⟩
  have t1 : decide (1 ≤ v) = true := by simp [hm]
  go_wp2_with fail
  refine (slicesMax_any a yo c w HA.out hl h5).mono ?_
  rintro e w1 ⟨⟨u, rfl, hu⟩, rfl⟩
  have HU := Lib.hid hu
  clear hu
  have HN := Lib.hid (show tell (HeadOk h yo) = decide (u ≤ 64) by
    rw [decide_tell]
    exact tell_congr ⟨fun q => (HU.out 64).2 fun j hj => (q.2.2 j hj).2, fun q => ⟨⟨by omega, by omega⟩, ⟨by omega, by omega⟩, fun j hj => ⟨(HV.out 1).1 hm j hj, (HU.out 64).1 q j hj⟩⟩⟩)
  go_wp2_with fail
  go_ret
  exact ⟨ret_bool HN.out.symm, rfl⟩
set_option maxRecDepth 100000 in
set_option maxHeartbeats 1000000 in
theorem isCase_any (h : Int) (ao : Option Addr) (yo : List Int) (co : Nat) (a : Option Addr) (n c : Nat) (s : Int) (ai : Option Addr) (sh : List Int) (ci : Nat) (w : World) (ho : Ints w ao yo) (hi : Ints w ai sh) (hlo : yo.length ≤ 9223372036854775807) (hls : sh.length ≤ 9223372036854775807) :
    Calls Tryd.prog 75 #[.agg #[.int .i64 h, .slice ao yo.length co, .slice a n c], .agg #[.int .i64 s, .slice ai sh.length ci]] w fun e w' => e = .returned (.bool (tell (CaseOk h yo s sh))) ∧ Below w.heap.size w w' := by
  have hb0 := (Below.refl w.heap.size w).alloc (Nat.le_refl _) (.cells #[.int .i64 h, .slice ao yo.length co, .slice a n c] 30)
  have hb1 := hb0.alloc (by simp) (.cells #[.int .i64 s, .slice ai sh.length ci] 71)
  have hx := Boxes.step (show Boxes (w.alloc (.cells #[.int .i64 h, .slice ao yo.length co, .slice a n c] 30)) w.heap.size 30 #[.int .i64 h, .slice ao yo.length co, .slice a n c] from World.alloc_heap_new w _) ((Below.refl _ _).alloc (Nat.le_refl _) (.cells #[.int .i64 s, .slice ai sh.length ci] 71))
  have hy : Boxes ((w.alloc (.cells #[.int .i64 h, .slice ao yo.length co, .slice a n c] 30)).alloc (.cells #[.int .i64 s, .slice ai sh.length ci] 71)) (w.heap.size + 1) 71 #[.int .i64 s, .slice ai sh.length ci] := by
    have : Boxes ((w.alloc (.cells #[.int .i64 h, .slice ao yo.length co, .slice a n c] 30)).alloc (.cells #[.int .i64 s, .slice ai sh.length ci] 71)) (w.alloc (.cells #[.int .i64 h, .slice ao yo.length co, .slice a n c] 30)).heap.size 71 #[.int .i64 s, .slice ai sh.length ci] := World.alloc_heap_new _ _
    simp only [World.size_alloc] at this
    exact this
  have HO := Lib.hid (ho.step hb1)
  have HI := Lib.hid (hi.step hb1)
  have HB := Lib.hid hb1
  clear ho hi hb0
  by_cases h1 : s < 0
  · have HN := Lib.hid (tell_false (p := CaseOk h yo s sh) (fun q => by have := q.1.1; omega))
    clear hx hy hb1
    go_enter Tryd.func75, Tryd.ntmps75
    go_wp2_with fail
    go_ret
    exact ⟨ret_bool HN.out.symm, HB.out⟩
  by_cases h2 : h ≤ s
  · have HN := Lib.hid (tell_false (p := CaseOk h yo s sh) (fun q => by have := q.1.2; omega))
    clear hx hy hb1
    go_enter Tryd.func75, Tryd.ntmps75
    go_wp2_with fail
    go_ret
    exact ⟨ret_bool HN.out.symm, HB.out⟩
  by_cases h3 : sh.length = yo.length
  case neg =>
    have t1 : (sh.length != yo.length) = true := by simp [h3]
    have t2 : ((sh.length : Int) != (yo.length : Int)) = true := by simp; omega
    have HN := Lib.hid (tell_false (p := CaseOk h yo s sh) (fun q => h3 q.2.1))
    clear hx hy hb1 h3
    go_enter Tryd.func75, Tryd.ntmps75
    go_wp2_with fail
    go_ret
    exact ⟨ret_bool HN.out.symm, HB.out⟩
  have t1 : (sh.length != yo.length) = false := by simp [h3]
  have t2 : ((sh.length : Int) != (yo.length : Int)) = false := by simp [h3]
  have HN := Lib.hid h3
  clear h3
  go_enter Tryd.func75, Tryd.ntmps75
  go_wp2_with fail
  generalize (w.alloc (.cells #[.int .i64 h, .slice ao yo.length co, .slice a n c] 30)).alloc (.cells #[.int .i64 s, .slice ai sh.length ci] 71) = w1 at *
  have q1 := hx.m1
  clear hx hy hb1
  go_loop [5, 6, 29] (fun _ _ i => ∃ k : Nat, i = .int .i64 k ∧ k ≤ sh.length ∧ ∀ j, j < k → 0 ≤ nth sh j ∧ nth sh j < nth yo j)
    (fun _ _ i => sh.length - (intOf i).toNat)
  case atStart => exact ⟨0, rfl, Nat.zero_le _, fun j hj => absurd hj (Nat.not_lt_zero _)⟩
  case round =>
    obtain ⟨k, rfl, hk, hno⟩ := hrel
    have HNO := Lib.hid hno
    clear hno
    by_cases hlt : k < sh.length
    · have hlt2 : k < yo.length := by have := HN.out; omega
      rcases HO.out with hh | ⟨b1, o1, rfl, hc1⟩
      · rw [hh] at hlt2; exact absurd hlt2 (Nat.not_lt_zero _)
      rcases HI.out with hh | ⟨b2, o2, rfl, hc2⟩
      · rw [hh] at hlt; exact absurd hlt (Nat.not_lt_zero _)
      have g1 := hc1 k hlt2
      have g2 := hc2 k hlt
      have hi0 : (k : Int) < (sh.length : Int) := by omega
      have hi1 : (k : Int) < (yo.length : Int) := by omega
      clear hc1 hc2
      by_cases e1 : nth sh k < 0
      · have HX := Lib.hid (tell_false (p := CaseOk h yo s sh) (fun q => by have := (q.2.2 k hlt).1; omega))
        go_wp2_with fail
        go_ret
        exact ⟨ret_bool HX.out.symm, HB.out⟩
      by_cases e2 : nth yo k ≤ nth sh k
      · have HX := Lib.hid (tell_false (p := CaseOk h yo s sh) (fun q => by have := (q.2.2 k hlt).2; omega))
        go_wp2_with fail
        go_ret
        exact ⟨ret_bool HX.out.symm, HB.out⟩
      go_wp2_with fail
      go_round
      case rel => exact ⟨k + 1, by go_num, by omega, fun j hj => by
        by_cases e : j = k
        · subst e; omega
        · exact HNO.out j (by omega)⟩
      case measure => simp [intOf]; omega
    · have HX := Lib.hid (tell_true (p := CaseOk h yo s sh) ⟨⟨by omega, by omega⟩, HN.out, fun j hj => HNO.out j (by omega)⟩)
      go_wp2_with fail
      go_ret
      exact ⟨ret_bool HX.out.symm, HB.out⟩
end Go.Proofs.YtgndekojodpmkaaDoor

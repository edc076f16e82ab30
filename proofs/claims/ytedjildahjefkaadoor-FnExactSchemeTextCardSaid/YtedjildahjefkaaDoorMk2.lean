/- Counts and marks with their exact sums: szInt64S, szInt64SS, markInt64SS, szMatrix, markMatrix. -/
import Derived.Test.YtedjildahjefkaaDoorMat
namespace Go.Proofs.YtedjildahjefkaaDoor
open Go.RowKit Go.Deep
set_option linter.unusedVariables false

set_option maxRecDepth 100000 in
theorem szS2_any (a : Option Addr) (zs : List Int) (c : Nat) (left : Int) (w : World) (h0 : 0 ≤ left) (h1 : left ≤ 1048576) (hl : zs.length ≤ 9223372036854775807) :
    Calls Tryd.prog 24 #[.slice a zs.length c, .int .i64 left] w fun e w' => GivesInt (fun v => v = -1 ∨ (0 ≤ v ∧ v + zs.length ≤ left)) e ∧ w = w' := by
  by_cases h : left - (zs.length : Int) < 0
  all_goals
    go_enter Tryd.func24, Tryd.ntmps24
    go_wp2
    go_ret
  · exact ⟨⟨_, .inl rfl, rfl⟩, rfl⟩
  · exact ⟨⟨_, .inr ⟨by omega, by omega⟩, rfl⟩, rfl⟩

def Room2 (left : Int) (zss : List (List Int)) (v : Int) : Prop := v = -1 ∨ (0 ≤ v ∧ v + total zss ≤ left ∧ v ≤ left ∧ Small2 zss)

set_option maxRecDepth 100000 in
set_option maxHeartbeats 400000 in
theorem szSS2_any (a : Option Addr) (zss : List (List Int)) (c : Nat) (left : Int) (w : World) (h : Rows2 w a zss) (h0 : 0 ≤ left) (h1 : left ≤ 1048576) (hl : zss.length ≤ 9223372036854775807) (hll : ∀ r, r < zss.length → (nthL zss r).length ≤ 9223372036854775807) :
    Calls Tryd.prog 15 #[.slice a zss.length c, .int .i64 left] w fun e w' => GivesInt (Room2 left zss) e ∧ w = w' := by
  by_cases hneg : left - (zss.length : Int) < 0
  · go_enter Tryd.func15, Tryd.ntmps15
    go_wp2
    go_ret
    exact ⟨⟨_, .inl rfl, rfl⟩, rfl⟩
  · have hpos : 0 ≤ left - (zss.length : Int) := by omega
    have hll' := Lib.hid hll
    clear hll hneg
    go_enter Tryd.func15, Tryd.ntmps15
    go_wp2
    go_loop [1, 5] (fun l i => ∃ (k : Nat) (v : Int), k ≤ zss.length ∧ i = .int .i64 k ∧ l = .int .i64 v ∧ 0 ≤ v ∧ v ≤ left ∧ v + total (zss.take k) ≤ left ∧ ∀ r, r < k → (nthL zss r).length ≤ 1048576)
      (fun _ i => zss.length - (intOf i).toNat)
    case atStart => exact ⟨0, _, Nat.zero_le _, rfl, rfl, by omega, by omega, by simp [total]; omega, fun r hr => absurd hr (Nat.not_lt_zero _)⟩
    case round =>
      obtain ⟨k, v, hk, rfl, rfl, hv0, hv1, hv2, hsm⟩ := hrel
      have hsm' := Lib.hid hsm
      have HV := Lib.hid hv2
      clear hsm hv2
      by_cases hlt : k < zss.length
      · rcases h with h | ⟨b, o, rfl, hc⟩
        · rw [h] at hlt; exact absurd hlt (Nat.not_lt_zero _)
        obtain ⟨ai, ci, hcell, hints⟩ := hc k hlt
        have HT := Lib.hid (total_take hlt)
        clear hc
        go_wp2_with fail
        refine (szS2_any ai (nthL zss k) ci v w hv0 (by omega) (hll'.out k hlt)).mono ?_
        rintro e w1 ⟨⟨u, hu, rfl⟩, rfl⟩
        rcases hu with rfl | ⟨hu0, hu1⟩
        · go_wp2
          go_ret
          exact ⟨⟨_, .inl rfl, rfl⟩, rfl⟩
        · have HU := Lib.hid hu1
          clear hu1
          go_wp2
          go_round
          case rel =>
            have h2 := HV.out
            have h3 := HT.out
            have h4 := HU.out
            refine ⟨k + 1, u, by omega, by go_num, rfl, hu0, by omega, by omega, fun r hr => ?_⟩
            by_cases e : r = k
            · subst e; omega
            · exact hsm'.out r (by omega)
          case measure => simp [intOf]; omega
      · have HK := Lib.hid (show k = zss.length by omega)
        go_wp2
        go_ret
        refine ⟨⟨_, .inr ⟨hv0, ?_, hv1, by omega, fun r hr => hsm'.out r (by omega)⟩, rfl⟩, rfl⟩
        have := HV.out
        rw [HK.out, List.take_length] at this
        exact this

set_option maxRecDepth 100000 in
theorem szMatrix2_any (h l : Int) (a : Option Addr) (zss : List (List Int)) (c : Nat) (left : Int) (w : World) (hr : Rows2 w a zss) (h0 : 0 ≤ left) (h1 : left ≤ 1048576) (hl : zss.length ≤ 9223372036854775807) (hll : ∀ r, r < zss.length → (nthL zss r).length ≤ 9223372036854775807) :
    Calls Tryd.prog 5 #[.agg #[.int .i64 h, .int .i64 l, .slice a zss.length c], .int .i64 left] w fun e w' => GivesInt (Room2 left zss) e ∧ Below w.heap.size w w' := by
  have HL := Lib.hid hll
  clear hll
  go_enter Tryd.func5, Tryd.ntmps5
  go_wp2_with fail
  refine (szSS2_any a zss c left _ (hr.below ((Below.refl _ _).alloc (Nat.le_refl _) _) (Nat.le_refl _)) h0 h1 hl HL.out).mono ?_
  rintro e w1 ⟨⟨u, hu, rfl⟩, rfl⟩
  have hb := (Below.refl w.heap.size w).alloc (Nat.le_refl _) (.cells #[.int .i64 h, .int .i64 l, .slice a zss.length c] 24)
  rcases hu with rfl | ⟨hu0, hu1, hu2, hu3⟩
  · go_wp2
    go_ret
    exact ⟨⟨_, .inl rfl, rfl⟩, hb⟩
  · have H1 := Lib.hid hu1
    have H2 := Lib.hid hu3
    clear hu1 hu3
    go_wp2
    go_ret
    exact ⟨⟨_, .inr ⟨hu0, H1.out, hu2, H2.out⟩, rfl⟩, hb⟩

/-- What marks a copy: the sum, and which blocks it touches. -/
structure Marked3 (W : World) (g n : Nat) (v : Int) (e : Ending) (w' : World) : Prop where
  val : e = .returned (.int .i64 v)
  touch : Touch g (g + 1 + n) W w'

theorem Own2.touch {W W' : World} {g lo hi : Nat} {zss : List (List Int)} (k : Own2 W g zss) (h : Touch lo hi W W') (hg : hi ≤ g) : Own2 W' g zss :=
  ⟨h.row k.top (.inr hg), fun r hr => h.row (k.row r hr) (.inr (by omega))⟩
end Go.Proofs.YtedjildahjefkaaDoor

/- Counts and marks with their exact sums: szInt64S, szInt64SS, markInt64SS, szMatrix, markMatrix. -/
import Derived.Test.YtnebkhelobpkpaaMat
namespace Go.Proofs.Ytnebkhelobpkpaa
open Go.RowKit Go.Deep
set_option linter.unusedVariables false

set_option maxRecDepth 100000 in
theorem szS2_any (a : Option Addr) (zs : List Int) (c : Nat) (left : Int) (w : World) (h0 : 0 ≤ left) (h1 : left ≤ 1048576) (hl : zs.length ≤ 9223372036854775807) :
    Calls Try.prog 58 #[.slice a zs.length c, .int .i64 left] w fun e w' => GivesInt (fun v => v = -1 ∨ (0 ≤ v ∧ v + zs.length ≤ left)) e ∧ w = w' := by
  by_cases h : left - (zs.length : Int) < 0
  all_goals
    go_enter Try.func58, Try.ntmps58
    go_wp2
    go_ret
  · exact ⟨⟨_, .inl rfl, rfl⟩, rfl⟩
  · exact ⟨⟨_, .inr ⟨by omega, by omega⟩, rfl⟩, rfl⟩

def Room2 (left : Int) (zss : List (List Int)) (v : Int) : Prop := v = -1 ∨ (0 ≤ v ∧ v + total zss ≤ left ∧ v ≤ left ∧ Small2 zss)

set_option maxRecDepth 100000 in
set_option maxHeartbeats 400000 in
theorem szSS2_any (a : Option Addr) (zss : List (List Int)) (c : Nat) (left : Int) (w : World) (h : Rows2 w a zss) (h0 : 0 ≤ left) (h1 : left ≤ 1048576) (hl : zss.length ≤ 9223372036854775807) (hll : ∀ r, r < zss.length → (nthL zss r).length ≤ 9223372036854775807) :
    Calls Try.prog 97 #[.slice a zss.length c, .int .i64 left] w fun e w' => GivesInt (Room2 left zss) e ∧ w = w' := by
  by_cases hneg : left - (zss.length : Int) < 0
  · go_enter Try.func97, Try.ntmps97
    go_wp2
    go_ret
    exact ⟨⟨_, .inl rfl, rfl⟩, rfl⟩
  · have hpos : 0 ≤ left - (zss.length : Int) := by omega
    have hll' := Lib.hid hll
    clear hll hneg
    go_enter Try.func97, Try.ntmps97
    go_wp2
    go_loop [1, 5] (fun l i => ∃ (k : Nat) (v : Int), k ≤ zss.length ∧ i = .int .i64 k ∧ l = .int .i64 v ∧ 0 ≤ v ∧ v ≤ left ∧ v + total (zss.take k) ≤ left ∧ ∀ r, r < k → (nthL zss r).length ≤ 1048576)
      (fun _ i => zss.length - (intOf i).toNat)
    case atStart => exact ⟨0, _, Nat.zero_le _, rfl, rfl, by omega, by omega, by simp [total]; omega, fun r hr => absurd hr (Nat.not_lt_zero _)⟩
    case round =>
      obtain ⟨k, v, hk, rfl, rfl, hv0, hv1, hv2, hsm⟩ := hrel
      have hsm' := Lib.hid hsm
      have HV := Lib.hid hv2
      clear hsm hv2
      by_cases hlt : k < zss.length
      · rcases h with h | ⟨b, o, rfl, hc⟩
        · rw [h] at hlt; exact absurd hlt (Nat.not_lt_zero _)
        obtain ⟨ai, ci, hcell, hints⟩ := hc k hlt
        have HT := Lib.hid (total_take hlt)
        clear hc
        go_wp2_with fail
        refine (szS2_any ai (nthL zss k) ci v w hv0 (by omega) (hll'.out k hlt)).mono ?_
        rintro e w1 ⟨⟨u, hu, rfl⟩, rfl⟩
        rcases hu with rfl | ⟨hu0, hu1⟩
        · go_wp2
          go_ret
          exact ⟨⟨_, .inl rfl, rfl⟩, rfl⟩
        · have HU := Lib.hid hu1
          clear hu1
          go_wp2
          go_round
          case rel =>
            have h2 := HV.out
            have h3 := HT.out
            have h4 := HU.out
            refine ⟨k + 1, u, by omega, by go_num, rfl, hu0, by omega, by omega, fun r hr => ?_⟩
            by_cases e : r = k
            · subst e; omega
            · exact hsm'.out r (by omega)
          case measure => simp [intOf]; omega
      · have HK := Lib.hid (show k = zss.length by omega)
        go_wp2
        go_ret
        refine ⟨⟨_, .inr ⟨hv0, ?_, hv1, by omega, fun r hr => hsm'.out r (by omega)⟩, rfl⟩, rfl⟩
        have := HV.out
        rw [HK.out, List.take_length] at this
        exact this

set_option maxRecDepth 100000 in
theorem szMatrix2_any (h l : Int) (a : Option Addr) (zss : List (List Int)) (c : Nat) (left : Int) (w : World) (hr : Rows2 w a zss) (h0 : 0 ≤ left) (h1 : left ≤ 1048576) (hl : zss.length ≤ 9223372036854775807) (hll : ∀ r, r < zss.length → (nthL zss r).length ≤ 9223372036854775807) :
    Calls Try.prog 39 #[.agg #[.int .i64 h, .int .i64 l, .slice a zss.length c], .int .i64 left] w fun e w' => GivesInt (Room2 left zss) e ∧ Below w.heap.size w w' := by
  have HL := Lib.hid hll
  clear hll
  go_enter Try.func39, Try.ntmps39
  go_wp2_with fail
  refine (szSS2_any a zss c left _ (hr.below ((Below.refl _ _).alloc (Nat.le_refl _) _) (Nat.le_refl _)) h0 h1 hl HL.out).mono ?_
  rintro e w1 ⟨⟨u, hu, rfl⟩, rfl⟩
  have hb := (Below.refl w.heap.size w).alloc (Nat.le_refl _) (.cells #[.int .i64 h, .int .i64 l, .slice a zss.length c] 38)
  rcases hu with rfl | ⟨hu0, hu1, hu2, hu3⟩
  · go_wp2
    go_ret
    exact ⟨⟨_, .inl rfl, rfl⟩, hb⟩
  · have H1 := Lib.hid hu1
    have H2 := Lib.hid hu3
    clear hu1 hu3
    go_wp2
    go_ret
    exact ⟨⟨_, .inr ⟨hu0, H1.out, hu2, H2.out⟩, rfl⟩, hb⟩

/-- What marks a copy: the sum, and which blocks it touches. -/
structure Marked3 (W : World) (g n : Nat) (v : Int) (e : Ending) (w' : World) : Prop where
  val : e = .returned (.int .i64 v)
  touch : Touch g (g + 1 + n) W w'

set_option maxRecDepth 100000 in
set_option maxHeartbeats 400000 in
theorem markSS3_any (g c : Nat) (zss : List (List Int)) (k : Int) (w : World) (ho : Own2 w g zss) (hs : Small2 zss) (hk0 : 0 ≤ k) (hk1 : k ≤ 4194304) :
    Calls Try.prog 67 #[.slice (some ⟨g, 0, none⟩) zss.length c, .int .i64 k] w fun e w' => Marked3 w g zss.length (k + total zss) e w' ∧ w'.heap.size = w.heap.size := by
  have hl1 : zss.length ≤ 1048576 := hs.1
  have HS := Lib.hid hs
  have HO := Lib.hid ho
  clear hs ho
  go_enter Try.func67, Try.ntmps67
  go_wp2_with fail
  go_loopw [1, 5] (fun q i wr => ∃ (j : Nat) (u : Int), j ≤ zss.length ∧ i = .int .i64 j ∧ q = .int .i64 u ∧ u = k + total (zss.take j) ∧ 0 ≤ u ∧ u ≤ 4194304 + j * 1048576 ∧ wr.rowIs g 35 zss.length (fun r => .slice (some ⟨g + 1 + r, 0, none⟩) (nthL zss r).length (nthL zss r).length) ∧
      (∀ r, j ≤ r → r < zss.length → wr.rowIs (g + 1 + r) 2 (nthL zss r).length (fun i => .int .i64 (nth (nthL zss r) i))) ∧ wr.heap.size = w.heap.size ∧ Touch g (g + 1 + zss.length) w wr)
    (fun _ i _ => zss.length - (intOf i).toNat)
  case atStart => exact ⟨0, k, Nat.zero_le _, rfl, rfl, by simp [total], hk0, by omega, HO.out.top, fun r _ hr => HO.out.row r hr, rfl, Touch.refl _ _ _⟩
  case round =>
    obtain ⟨j, u, hj, rfl, rfl, hu, hu0, hu1, htop, hrows, hsz, ht⟩ := hrel
    have HU := Lib.hid hu
    clear hu
    by_cases hlt : j < zss.length
    · have hc := htop.cell hlt
      have hi0 : (j : Int) < (zss.length : Int) := by omega
      have hlr := HS.out.2 j hlt
      have HOW := Lib.hid (own_of_row (hrows j (Nat.le_refl _) hlt) (by unfold maxLen; omega))
      have HTT := Lib.hid (total_take hlt)
      have HT := Lib.hid htop
      have HR := Lib.hid hrows
      have HZ := Lib.hid hsz
      have HTO := Lib.hid ht
      clear htop hrows hsz ht
      go_wp2_with fail
      refine (markInt64S_any _ (nthL zss j) (g + 1 + j) u wr HOW.out hu0 (by omega) (by omega)).mono ?_
      rintro e w1 ⟨rfl, hown1, hsz1, hgr1⟩
      have t1 : Touch (g + 1 + j) (g + 1 + j + 1) wr w1 := Touch.of_grown hgr1 (fun q hq => by simp [Value.ownBlock] at hq; omega)
      have H1 := Lib.hid (t1.row HT.out (.inl (by omega)))
      have H2 := Lib.hid (show ∀ r, j + 1 ≤ r → r < zss.length → w1.rowIs (g + 1 + r) 2 (nthL zss r).length (fun i => .int .i64 (nth (nthL zss r) i)) from fun r hr hrl => t1.row (HR.out r (by omega) hrl) (.inr (by omega)))
      have H3 := Lib.hid (hsz1.trans HZ.out)
      have H4 := Lib.hid (HTO.out.trans (Touch.of_grown hgr1 (fun q hq => by simp [Value.ownBlock] at hq; omega)))
      have HU2 := Lib.hid (show u + (nthL zss j).length = k + total (zss.take (j + 1)) by rw [HTT.out, HU.out]; omega)
      clear t1 hown1 hsz1 hgr1
      go_wp2_with fail
      go_roundw
      case rel => exact ⟨j + 1, u + (nthL zss j).length, by omega, by go_num, rfl, HU2.out, by omega, by omega, H1.out, H2.out, H3.out, H4.out⟩
      case measure => simp [intOf]; omega
    · have HT := Lib.hid ht
      have HZ := Lib.hid hsz
      have HK := Lib.hid (show j = zss.length by omega)
      clear hrows htop ht hsz
      go_wp2_with fail
      go_ret
      exact ⟨⟨by rw [HU.out, HK.out, List.take_length]; rfl, HT.out⟩, HZ.out⟩

set_option maxRecDepth 100000 in
theorem markMatrix3_any (h l : Int) (g c : Nat) (zss : List (List Int)) (k : Int) (w : World) (ho : Own2 w g zss) (hs : Small2 zss) (hk0 : 0 ≤ k) (hk1 : k ≤ 4194304) :
    Calls Try.prog 44 #[.agg #[.int .i64 h, .int .i64 l, .slice (some ⟨g, 0, none⟩) zss.length c], .int .i64 k] w (Marked3 w g zss.length (k + total zss)) := by
  have hb1 := (Below.refl w.heap.size w).alloc (Nat.le_refl _) (.cells #[.int .i64 h, .int .i64 l, .slice (some ⟨g, 0, none⟩) zss.length c] 46)
  have HO := Lib.hid (ho.step hb1)
  have HS := Lib.hid hs
  clear ho hs
  go_enter Try.func44, Try.ntmps44
  go_wp2_with fail
  refine (markSS3_any g c zss k _ HO.out HS.out hk0 hk1).mono ?_
  generalize w.alloc (.cells #[.int .i64 h, .int .i64 l, .slice (some ⟨g, 0, none⟩) zss.length c] 46) = w1 at *
  rintro e w2 ⟨⟨rfl, ht⟩, _⟩
  have HT := Lib.hid ((Touch.of_below _ _ hb1).trans ht)
  clear ht hb1
  go_wp2_with fail
  go_ret
  exact ⟨rfl, HT.out⟩
theorem Own2.touch {W W' : World} {g lo hi : Nat} {zss : List (List Int)} (k : Own2 W g zss) (h : Touch lo hi W W') (hg : hi ≤ g) : Own2 W' g zss :=
  ⟨h.row k.top (.inr hg), fun r hr => h.row (k.row r hr) (.inr (by omega))⟩
end Go.Proofs.Ytnebkhelobpkpaa

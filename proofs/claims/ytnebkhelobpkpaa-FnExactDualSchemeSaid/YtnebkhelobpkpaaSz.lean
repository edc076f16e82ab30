/- The contracts of the laws' own counts and comparisons: szInt64S, szInt64SS, eqInt64S, eqInt64SS. -/
import Derived.Test.YtnebkhelobpkpaaMem
import Derived.Deep.QuietTactic
import Derived.BigQuiet
namespace Go.Proofs.Ytnebkhelobpkpaa
open Go.RowKit Go.Deep

/-- What a count of room says: there was none, or there is room and all is small. -/
def RoomFor (left : Int) (P : Prop) (v : Int) : Prop := v = -1 ∨ (0 ≤ v ∧ v ≤ left ∧ P)
def Small (zs : List Int) : Prop := zs.length ≤ 1048576
def Small2 (zss : List (List Int)) : Prop := zss.length ≤ 1048576 ∧ ∀ r, r < zss.length → (nthL zss r).length ≤ 1048576
def GivesInt (P : Int → Prop) (e : Ending) : Prop := ∃ v : Int, P v ∧ e = .returned (.int .i64 v)

set_option maxRecDepth 100000 in
theorem szInt64S_any (a : Option Addr) (zs : List Int) (c : Nat) (left : Int) (w : World) (h0 : 0 ≤ left) (h1 : left ≤ 1048576) (hl : zs.length ≤ 9223372036854775807) :
    Calls Try.prog 58 #[.slice a zs.length c, .int .i64 left] w fun e w' => GivesInt (RoomFor left (Small zs)) e ∧ w = w' := by
  by_cases h : left - (zs.length : Int) < 0
  all_goals
    go_enter Try.func58, Try.ntmps58
    go_wp2
    go_ret
  · exact ⟨⟨_, .inl rfl, rfl⟩, rfl⟩
  · exact ⟨⟨_, .inr ⟨by omega, by omega, by unfold Small; omega⟩, rfl⟩, rfl⟩

set_option maxRecDepth 100000 in
set_option maxHeartbeats 400000 in
theorem szInt64SS_any (a : Option Addr) (zss : List (List Int)) (c : Nat) (left : Int) (w : World) (h : Rows2 w a zss) (h0 : 0 ≤ left) (h1 : left ≤ 1048576) (hl : zss.length ≤ 9223372036854775807) (hll : ∀ r, r < zss.length → (nthL zss r).length ≤ 9223372036854775807) :
    Calls Try.prog 97 #[.slice a zss.length c, .int .i64 left] w fun e w' => GivesInt (RoomFor left (Small2 zss)) e ∧ w = w' := by
  by_cases hneg : left - (zss.length : Int) < 0
  · go_enter Try.func97, Try.ntmps97
    go_wp2
    go_ret
    exact ⟨⟨_, .inl rfl, rfl⟩, rfl⟩
  · have hpos : 0 ≤ left - (zss.length : Int) := by omega
    have hll' := Lib.hid hll
    clear hll hneg
    go_enter Try.func97, Try.ntmps97
    go_wp2
    go_loop [1, 5] (fun l i => ∃ (k : Nat) (v : Int), k ≤ zss.length ∧ i = .int .i64 k ∧ l = .int .i64 v ∧ 0 ≤ v ∧ v ≤ left ∧ ∀ r, r < k → (nthL zss r).length ≤ 1048576)
      (fun _ i => zss.length - (intOf i).toNat)
    case atStart => exact ⟨0, _, Nat.zero_le _, rfl, rfl, by omega, by omega, fun r hr => absurd hr (Nat.not_lt_zero _)⟩
    case round =>
      obtain ⟨k, v, hk, rfl, rfl, hv0, hv1, hsm⟩ := hrel
      have hsm' := Lib.hid hsm
      clear hsm
      by_cases hlt : k < zss.length
      · rcases h with h | ⟨b, o, rfl, hc⟩
        · rw [h] at hlt; exact absurd hlt (Nat.not_lt_zero _)
        obtain ⟨ai, ci, hcell, hints⟩ := hc k hlt
        clear hc
        go_wp2_with fail
        refine (szInt64S_any ai (nthL zss k) ci v w hv0 (by omega) (hll'.out k hlt)).mono ?_
        rintro e w1 ⟨⟨u, hu, rfl⟩, rfl⟩
        rcases hu with rfl | ⟨hu0, hu1, hu2⟩
        · go_wp2
          go_ret
          exact ⟨⟨_, .inl rfl, rfl⟩, rfl⟩
        · go_wp2
          go_round
          case rel =>
            refine ⟨k + 1, u, by omega, by go_num, rfl, hu0, by omega, fun r hr => ?_⟩
            by_cases e : r = k
            · subst e; exact hu2
            · exact hsm'.out r (by omega)
          case measure => simp [intOf]; omega
      · go_wp2
        go_ret
        exact ⟨⟨_, .inr ⟨hv0, hv1, by omega, fun r hr => hsm'.out r (by omega)⟩, rfl⟩, rfl⟩

/-- Two lists are one where they are as long and all their elements are the same. -/
theorem ext_nth {xs ys : List Int} (hl : xs.length = ys.length) (h : ∀ i, i < xs.length → nth xs i = nth ys i) : xs = ys := by
  apply List.ext_getElem hl
  intro i h1 h2
  have := h i h1
  rwa [nth_lt h1, nth_lt h2] at this
theorem ext_nthL {xs ys : List (List Int)} (hl : xs.length = ys.length) (h : ∀ i, i < xs.length → nthL xs i = nthL ys i) : xs = ys := by
  apply List.ext_getElem hl
  intro i h1 h2
  have := h i h1
  rwa [nthL_lt h1, nthL_lt h2] at this

/-- A world that holds what another one held, a number of draws later. -/
def Quiet (w w' : World) : Prop := ∃ n, w' = w.drewN n
theorem Quiet.refl (w : World) : Quiet w w := ⟨0, rfl⟩

set_option maxRecDepth 100000 in
/-- 'eqInt64S' at one list twice: true. -/
theorem eqInt64S_same (a b : Option Addr) (xs : List Int) (ca cb : Nat) (w : World) (ha : Ints w a xs) (hb : Ints w b xs) (hl : xs.length ≤ 9223372036854775807) :
    Calls Try.prog 29 #[.slice a xs.length ca, .slice b xs.length cb] w fun e w' => e = .returned (.bool true) ∧ Quiet w w' := by
  go_enter Try.func29, Try.ntmps29
  go_wp2
  go_loopw [5] (fun i wr => ∃ k nq : Nat, k ≤ xs.length ∧ i = .int .i64 k ∧ wr = w.drewN nq)
    (fun i _ => xs.length - (intOf i).toNat)
  case atStart => exact ⟨0, 0, Nat.zero_le _, rfl, rfl⟩
  case round =>
    obtain ⟨k, nq, hk, rfl, rfl⟩ := hrel
    by_cases hlt : k < xs.length
    · rcases ha with h | ⟨b1, o1, rfl, hc1⟩
      · rw [h] at hlt; exact absurd hlt (Nat.not_lt_zero _)
      rcases hb with h | ⟨b2, o2, rfl, hc2⟩
      · rw [h] at hlt; exact absurd hlt (Nat.not_lt_zero _)
      have g1 := hc1 k hlt
      have g2 := hc2 k hlt
      have hi : ((k : Int)) < (xs.length : Int) := by omega
      clear hc1 hc2
      go_wp2
      go_quiet (fail)
      go_wp2
      go_roundw
      case rel => exact ⟨k + 1, _, by omega, by go_num, rfl⟩
      case measure => simp [intOf]; omega
    · go_wp2
      go_ret
      exact ⟨rfl, _, rfl⟩
end Go.Proofs.Ytnebkhelobpkpaa

/- l03Dot of the model. -/
import Derived.Test.YtekhjoenejgmaaaGti
import Derived.Test.YtekhjoenejgmaaaVm
import Derived.BigQuiet
namespace Go.Proofs.Ytekhjoenejgmaaa
open Go.RowKit Go.Deep
set_option linter.unusedVariables false

theorem dotTo_bound {a b : Nat → Int} {p : Int} (hp1 : p ≤ 31) (n : Nat) (ha : ∀ j, j < n → Elem p (a j)) (hb : ∀ j, j < n → Elem p (b j)) : ∀ k, k ≤ n → 0 ≤ dotTo a b k ∧ dotTo a b k ≤ 961 * k := by
  intro k
  induction k with
  | zero => intro _; simp [dotTo]
  | succ k ih =>
    intro hk
    obtain ⟨h1, h2⟩ := ih (by omega)
    obtain ⟨h3, h4⟩ := mul_bounds hp1 (ha k (by omega)) (hb k (by omega))
    simp only [dotTo]
    omega
theorem dotTo_congr {a b a' b' : Nat → Int} (n : Nat) (h : ∀ j, j < n → a j = a' j ∧ b j = b' j) : ∀ k, k ≤ n → dotTo a b k = dotTo a' b' k := by
  intro k
  induction k with
  | zero => intro _; rfl
  | succ k ih => intro hk; simp only [dotTo]; rw [ih (by omega), (h k (by omega)).1, (h k (by omega)).2]

set_option maxRecDepth 100000 in
set_option maxHeartbeats 1000000 in
theorem l03Dot_any (p : Int) (a b : Option Addr) (xs ys : List Int) (ca cb : Nat) (w : World) (hp : 2 ≤ p) (hp1 : p ≤ 31) (ha : Ints w a xs) (hb : Ints w b ys) (hl : xs.length = ys.length) (hl1 : xs.length ≤ 1000) (hx : Elems p xs) (hy : Elems p ys) :
    Calls Try.prog 98 #[.int .i64 p, .slice a xs.length ca, .slice b ys.length cb] w fun e w' => e = .returned (.int .i64 (dotTo (nth xs) (nth ys) xs.length % p)) ∧ Quiet w w' := by
  have HX := Lib.hid hx
  have HY := Lib.hid hy
  have HL := Lib.hid hl
  have HA := Lib.hid ha
  have HB := Lib.hid hb
  have hp0 : p ≠ 0 := by omega
  clear ha hb hx hy
  go_enter Try.func98, Try.ntmps98
  go_wp2_with fail
  go_loopw [7, 8] (fun s i wr => ∃ k : Nat, k ≤ xs.length ∧ i = .int .i64 k ∧ s = .int .i64 (dotTo (nth xs) (nth ys) k) ∧ Quiet w wr)
    (fun _ i _ => xs.length - (intOf i).toNat)
  case atStart => exact ⟨0, Nat.zero_le _, rfl, rfl, Quiet.refl _⟩
  case round =>
    obtain ⟨k, hk, rfl, rfl, hq⟩ := hrel
    have HQ := Lib.hid hq
    clear hq
    obtain ⟨s0, s1⟩ := dotTo_bound hp1 xs.length HX.out (fun j hj => HY.out j (by have := HL.out; omega)) k hk
    by_cases hlt : k < xs.length
    · have hlt2 : k < ys.length := by have := HL.out; omega
      rcases HA.out.quiet HQ.out with h | ⟨b1, o1, rfl, hc1⟩
      · rw [h] at hlt; exact absurd hlt (Nat.not_lt_zero _)
      rcases HB.out.quiet HQ.out with h | ⟨b2, o2, rfl, hc2⟩
      · rw [h] at hlt2; exact absurd hlt2 (Nat.not_lt_zero _)
      have d1 := hc1 k hlt
      have d2 := hc2 k hlt2
      have hk1 : (k : Int) < (xs.length : Int) := by omega
      have hk2 : (k : Int) < (ys.length : Int) := by omega
      obtain ⟨m0, m1⟩ := mul_bounds hp1 (HX.out k hlt) (HY.out k hlt2)
      have HS := Lib.hid (show dotTo (nth xs) (nth ys) (k + 1) = dotTo (nth xs) (nth ys) k + nth xs k * nth ys k from rfl)
      generalize hu : dotTo (nth xs) (nth ys) k = u at *
      generalize nth xs k = x at *
      generalize nth ys k = y at *
      clear hc1 hc2 hu
      go_wp2_with fail
      go_quiet (fail)
      go_wp2_with fail
      go_roundw
      case rel => exact ⟨k + 1, by omega, by go_num, by rw [HS.out], HQ.out.trans ⟨_, rfl⟩⟩
      case measure => simp [intOf]; omega
    · have HE := Lib.hid (show k = xs.length by omega)
      go_wp2_with fail
      go_ret
      exact ⟨by rw [← HE.out]; rfl, HQ.out⟩
end Go.Proofs.Ytekhjoenejgmaaa

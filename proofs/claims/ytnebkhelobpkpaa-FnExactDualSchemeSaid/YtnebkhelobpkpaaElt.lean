/- Elements of a field: number, remainder, plus, times, power, inverse of the program; l03Power and l03Inverse of the model. -/
import Derived.Test.YtnebkhelobpkpaaPrm
import Derived.Deep.RegionWith
namespace Go.Proofs.Ytnebkhelobpkpaa
open Go.RowKit Go.Deep
set_option linter.unusedVariables false

/-- An element as a value. -/
def elt (p v : Int) : Value := .agg #[.int .i64 p, .int .i64 v]

set_option maxRecDepth 100000 in
theorem number_any (p v : Int) (w : World) : Calls Try.prog 95 #[.int .i64 p, .int .i64 v] w fun e w' => e = .returned (.agg #[.int .i64 p, .int .i64 v]) ∧ Below w.heap.size w w' := by
  go_enter Try.func95, Try.ntmps95
  go_wp2
  refine bodyPost_ret (v := .agg #[.int .i64 p, .int .i64 v]) (by simp [results, Try.results95, go_sem]) rfl ⟨rfl, ?_⟩
  go_grown

set_option maxRecDepth 100000 in
theorem prime_any (p : Int) (w : World) : Calls Try.prog 127 #[.int .i64 p] w fun e w' => e = .returned (.int .i64 p) ∧ w = w' := by
  go_enter Try.func127, Try.ntmps127
  go_wp2
  go_ret
  exact ⟨rfl, rfl⟩

set_option maxRecDepth 100000 in
theorem rem_any (p v n : Int) (w : World) (hp : 2 ≤ p) (hp1 : p ≤ 31) (hn : 0 ≤ n) : Calls Try.prog 137 #[.agg #[.int .i64 p, .int .i64 v], .int .i64 n] w fun e w' => e = .returned (.agg #[.int .i64 p, .int .i64 (n % p)]) ∧ Below w.heap.size w w' := by
  have hb := ((Below.refl w.heap.size w).alloc (Nat.le_refl _) (.cells #[.int .i64 p, .int .i64 v] 126)).alloc (by simp) (.cells #[.int .i64 0, .int .i64 0] 126)
  go_enter Try.func137, Try.ntmps137
  go_wp2_with fail
  go_region_with (go_at_call 127; refine (prime_any p _).mono ?_; rintro e w' ⟨rfl, rfl⟩)
  all_goals (go_wp2_with fail; refine bodyPost_ret (v := .agg #[.int .i64 p, .int .i64 (n % p)]) (by simp [results, Try.results137, go_sem]) rfl ⟨rfl, ?_⟩; exact (((Below.refl w.heap.size w).alloc (Nat.le_refl _) _).alloc (by simp) _).drew)

theorem mul_bounds {p a b : Int} (hp1 : p ≤ 31) (ha : Elem p a) (hb : Elem p b) : 0 ≤ a * b ∧ a * b ≤ 961 := by
  obtain ⟨a0, a1⟩ := ha
  obtain ⟨b0, b1⟩ := hb
  refine ⟨Int.mul_nonneg a0 b0, ?_⟩
  have h1 : a * b ≤ 31 * b := Int.mul_le_mul_of_nonneg_right (by omega) b0
  omega
theorem mod_elem {p : Int} (hp : 2 ≤ p) (n : Int) : Elem p (n % p) := ⟨Int.emod_nonneg _ (by omega), Int.emod_lt_of_pos _ (by omega)⟩

set_option maxRecDepth 100000 in
theorem plus_any (p a b : Int) (w : World) (hp : 2 ≤ p) (hp1 : p ≤ 31) (ha : Elem p a) (hb : Elem p b) : Calls Try.prog 169 #[.agg #[.int .i64 p, .int .i64 a], .agg #[.int .i64 p, .int .i64 b]] w fun e w' => e = .returned (.agg #[.int .i64 p, .int .i64 ((a + b) % p)]) ∧ Below w.heap.size w w' := by
  obtain ⟨a0, a1⟩ := ha
  obtain ⟨b0, b1⟩ := hb
  go_enter Try.func169, Try.ntmps169
  go_wp2_with fail
  refine (rem_any p a ((a + b)) _ hp hp1 (by omega)).mono ?_
  rintro e w1 ⟨rfl, hb⟩
  have hB := (((Below.refl w.heap.size w).alloc (Nat.le_refl _) (.cells #[.int .i64 p, .int .i64 a] 126)).alloc (by simp) (.cells #[.int .i64 p, .int .i64 b] 126)).alloc (by simp; omega) (.cells #[.int .i64 0, .int .i64 0] 126)
  obtain ⟨hc, hf⟩ := bcell hb
  simp only [World.size_alloc] at hc hf
  have HB := Lib.hid (hB.trans (hb.mono (by simp; omega)))
  clear hb hB
  go_wp2
  refine bodyPost_ret (v := .agg #[.int .i64 p, .int .i64 ((a + b) % p)]) (by simp [results, Try.results169, go_sem, hc]) rfl ⟨rfl, ?_⟩
  exact (HB.out.setCell (by simp; omega) _).setCell (by simp; omega) _

set_option maxRecDepth 100000 in
theorem times_any (p a b : Int) (w : World) (hp : 2 ≤ p) (hp1 : p ≤ 31) (ha : Elem p a) (hb : Elem p b) : Calls Try.prog 165 #[.agg #[.int .i64 p, .int .i64 a], .agg #[.int .i64 p, .int .i64 b]] w fun e w' => e = .returned (.agg #[.int .i64 p, .int .i64 ((a * b) % p)]) ∧ Below w.heap.size w w' := by
  obtain ⟨a0, a1⟩ := ha
  obtain ⟨b0, b1⟩ := hb
  obtain ⟨m0, m1⟩ := mul_bounds hp1 ⟨a0, a1⟩ ⟨b0, b1⟩
  go_enter Try.func165, Try.ntmps165
  go_wp2_with fail
  refine (rem_any p a ((a * b)) _ hp hp1 m0).mono ?_
  rintro e w1 ⟨rfl, hb⟩
  have hB := (((Below.refl w.heap.size w).alloc (Nat.le_refl _) (.cells #[.int .i64 p, .int .i64 a] 126)).alloc (by simp) (.cells #[.int .i64 p, .int .i64 b] 126)).alloc (by simp; omega) (.cells #[.int .i64 0, .int .i64 0] 126)
  obtain ⟨hc, hf⟩ := bcell hb
  simp only [World.size_alloc] at hc hf
  have HB := Lib.hid (hB.trans (hb.mono (by simp; omega)))
  clear hb hB
  go_wp2
  refine bodyPost_ret (v := .agg #[.int .i64 p, .int .i64 ((a * b) % p)]) (by simp [results, Try.results165, go_sem, hc]) rfl ⟨rfl, ?_⟩
  exact (HB.out.setCell (by simp; omega) _).setCell (by simp; omega) _


/-- A product of equal factors. -/
def powOf (p a : Int) : Nat → Int
  | 0 => 1
  | k + 1 => powOf p a k * a % p
theorem powOf_elem {p : Int} (hp : 2 ≤ p) (a : Int) (k : Nat) : Elem p (powOf p a k) := by
  cases k with
  | zero => exact ⟨by simp [powOf], by simp [powOf]; omega⟩
  | succ k => exact mod_elem hp _

set_option maxRecDepth 100000 in
set_option maxHeartbeats 400000 in
theorem l03Power_any (p a : Int) (n : Nat) (w : World) (hp : 2 ≤ p) (hp1 : p ≤ 31) (ha : Elem p a) (hn : n ≤ 1000) : Calls Try.prog 174 #[.int .i64 p, .int .i64 a, .int .i64 n] w fun e w' => e = .returned (.int .i64 (powOf p a n)) ∧ w = w' := by
  go_enter Try.func174, Try.ntmps174
  go_wp2
  go_loop [2, 7] (fun i o => ∃ k : Nat, k ≤ n ∧ i = .int .i64 ((n : Int) - k) ∧ o = .int .i64 (powOf p a k))
    (fun i _ => (intOf i).toNat)
  case atStart => exact ⟨0, Nat.zero_le _, by simp, rfl⟩
  case round =>
    obtain ⟨k, hk, rfl, rfl⟩ := hrel
    by_cases hlt : k < n
    · have HR := Lib.hid (show powOf p a (k + 1) = powOf p a k * a % p from rfl)
      obtain ⟨m0, m1⟩ := mul_bounds hp1 (powOf_elem hp a k) ha
      generalize powOf p a k = x at *
      have hp0 : p ≠ 0 := by omega
      have hk0 : (0 : Int) < (n : Int) - k := by omega
      go_wp2
      go_round
      case rel => exact ⟨k + 1, by omega, by go_num, by rw [HR.out]⟩
      case measure => simp [intOf]; omega
    · have HE := Lib.hid (show k = n by omega)
      go_wp2
      go_ret
      exact ⟨by rw [HE.out]; rfl, rfl⟩

set_option maxRecDepth 100000 in
theorem l03Inverse_any (p a : Int) (w : World) (hp : 2 ≤ p) (hp1 : p ≤ 31) (ha : Elem p a) : Calls Try.prog 159 #[.int .i64 p, .int .i64 a] w fun e w' => e = .returned (.int .i64 (powOf p a (p - 2).toNat)) ∧ w = w' := by
  obtain ⟨n, hn⟩ : ∃ n : Nat, p = n + 2 := ⟨(p - 2).toNat, by omega⟩
  have e : p - 2 = (n : Int) := by omega
  have HE := Lib.hid (show (p - 2).toNat = n by omega)
  clear hn
  go_enter Try.func159, Try.ntmps159
  go_wp2_with fail
  refine (l03Power_any p a n w hp hp1 ha (by omega)).mono ?_
  rintro e w' ⟨rfl, rfl⟩
  go_wp2
  go_ret
  exact ⟨by rw [HE.out]; rfl, rfl⟩

/-- A block of known cells. -/
theorem Boxes.frozen {W : World} {B : Nat} {t : TypeId} {vs : Array Value} (h : Boxes W B t vs) (i : Nat) : W.frozen? ⟨B, i, none⟩ = false := by simp [World.frozen?, show W.heap[B]? = _ from h]
theorem Boxes.set2 {W : World} {B : Nat} {t : TypeId} {u0 u1 : Value} (h : Boxes W B t #[u0, u1]) (v0 v1 : Value) : Boxes ((W.setCell ⟨B, 0, none⟩ v0).setCell ⟨B, 1, none⟩ v1) B t #[v0, v1] := by
  unfold Boxes at h ⊢
  simp [World.setCell, Array.getElem?_modify, h]

end Go.Proofs.Ytnebkhelobpkpaa

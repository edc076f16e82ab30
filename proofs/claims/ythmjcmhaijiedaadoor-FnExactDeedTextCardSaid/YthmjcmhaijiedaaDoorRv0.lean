/- Valid ranks: what that is; slices.Min, slices.Max, countGroups, the arrays of the program. -/
import Derived.Test.YthmjcmhaijiedaaDoorRk
import Derived.Test.YthmjcmhaijiedaaDoorSet
import Derived.BigQuiet
namespace Go.Proofs.YthmjcmhaijiedaaDoor
open Go.RowKit Go.Deep
set_option linter.unusedVariables false

/-- The ranks of all groups, by number, are met by all pairs. -/
def Meets (z : List Int) (n : Nat) : Prop := ∀ a, a < n → ∀ b, b < n → (a &&& b = a → nth z a ≤ nth z b) ∧ nth z (a ||| b) + nth z (a &&& b) ≤ nth z a + nth z b
/-- What a pair of groups does if it does not. -/
def BadAt (z : List Int) (a b : Nat) : Prop := (a &&& b = a ∧ nth z b < nth z a) ∨ nth z a + nth z b < nth z (a ||| b) + nth z (a &&& b)
theorem meets_iff {z : List Int} {n : Nat} : Meets z n ↔ ∀ a, a < n → ∀ b, b < n → ¬ BadAt z a b := by
  constructor
  · intro h a ha b hb k
    rcases k with ⟨k1, k2⟩ | k
    · have := (h a ha b hb).1 k1; omega
    · have := (h a ha b hb).2; omega
  · intro h a ha b hb
    have := h a ha b hb
    unfold BadAt at this
    exact ⟨fun k => by
      by_cases q : nth z a ≤ nth z b
      · exact q
      · exact absurd (.inl ⟨k, by omega⟩) this, by
      by_cases q : nth z (a ||| b) + nth z (a &&& b) ≤ nth z a + nth z b
      · exact q
      · exact absurd (.inr (by omega)) this⟩
def HeadK (h l : Int) (z : List Int) : Prop := (1 ≤ h ∧ h ≤ 5) ∧ (1 ≤ l ∧ l ≤ 100000) ∧ z.length = 2 ^ h.toNat
def SmallK (z : List Int) : Prop := ∀ i, i < z.length → 0 ≤ nth z i ∧ nth z i ≤ 100000
/-- Valid ranks. -/
def RkOk (h l : Int) (z : List Int) : Prop := HeadK h l z ∧ nth z 0 = 0 ∧ SmallK z ∧ Meets z z.length
/-- Ranks that are small wherever one looks. -/
def Mild (z : List Int) : Prop := ∀ i, 0 ≤ nth z i ∧ nth z i ≤ 1000000
theorem nth_out {L : List Int} {j : Nat} (h : L.length ≤ j) : nth L j = 0 := by unfold nth; simp [List.getD, List.getElem?_eq_none h]
theorem SmallK.mild {z : List Int} (h : SmallK z) : Mild z := fun i => by
  by_cases hi : i < z.length
  · have := h i hi; omega
  · rw [nth_out (by omega)]; decide

theorem pow5 {m : Nat} (h : m ≤ 5) : (2 : Nat) ^ m ≤ 32 := Nat.le_trans (Nat.pow_le_pow_right (by decide) h) (by decide)
theorem wrap64_pow5 : ∀ m : Nat, m ≤ 5 → wrap64 ((2 : Int) ^ m) = ((2 ^ m : Nat) : Int) := by decide +kernel
theorem i64wrap_pow5 : ∀ m : Nat, m ≤ 5 → IntKind.i64.wrap ((2 : Int) ^ m) = ((2 ^ m : Nat) : Int) := by decide +kernel
theorem u64wrap_pow5 : ∀ m : Nat, m ≤ 5 → IntKind.u64.wrap ((2 : Int) ^ m) = ((2 ^ m : Nat) : Int) := by decide +kernel

set_option maxRecDepth 100000 in
theorem slicesMin_any (a : Option Addr) (xs : List Int) (c : Nat) (w : World) (ha : Ints w a xs) (hl : xs.length ≤ 9223372036854775807) (h1 : 1 ≤ xs.length) :
    Calls Tryd.prog 138 #[.slice a xs.length c] w fun e w' => (∃ v : Int, e = .returned (.int .i64 v) ∧ ∀ c : Int, c ≤ v ↔ ∀ j, j < xs.length → c ≤ nth xs j) ∧ w = w' := by
  rcases ha with h | ⟨b, o, rfl, hc⟩
  · rw [h] at h1; exact absurd h1 (by decide)
  have g0 : w.cell? ⟨b, o, none⟩ = some (.int .i64 (nth xs 0)) := hc 0 (by omega)
  have hp : (0 : Int) < (xs.length : Int) := by omega
  have HC := Lib.hid hc
  clear hc
  go_enter Tryd.func138, Tryd.ntmps138
  go_wp2
  go_loop [3, 4] (fun m i => ∃ (k : Nat) (v : Int), 1 ≤ k ∧ k ≤ xs.length ∧ i = .int .i64 k ∧ m = .int .i64 v ∧ ∀ c : Int, c ≤ v ↔ ∀ j, j < k → c ≤ nth xs j)
    (fun _ i => xs.length - (intOf i).toNat)
  case atStart => exact ⟨1, _, by omega, by omega, rfl, rfl, fun c => ⟨fun h j hj => by rw [show j = 0 by omega]; exact h, fun h => h 0 (by omega)⟩⟩
  case round =>
    obtain ⟨k, v, hk1, hk, rfl, rfl, hv⟩ := hrel
    have HV := Lib.hid hv
    clear hv
    by_cases hlt : k < xs.length
    · have g1 := HC.out k hlt
      have hi0 : (k : Int) < (xs.length : Int) := by omega
      by_cases hm : nth xs k < v
      · go_wp2
        go_round
        case rel => exact ⟨k + 1, nth xs k, by omega, by omega, by go_num, by simp, fun c => ⟨fun h j hj => by
            by_cases e : j = k
            · subst e; exact h
            · exact (HV.out c).1 (by omega) j (by omega), fun h => h k (by omega)⟩⟩
        case measure => simp [intOf]; omega
      · go_wp2
        go_round
        case rel => exact ⟨k + 1, v, by omega, by omega, by go_num, by simp, fun c => ⟨fun h j hj => by
            by_cases e : j = k
            · subst e; omega
            · exact (HV.out c).1 h j (by omega), fun h => (HV.out c).2 fun j hj => h j (by omega)⟩⟩
        case measure => simp [intOf]; omega
    · have HK := Lib.hid (show k = xs.length by omega)
      go_wp2
      go_ret
      exact ⟨⟨v, rfl, by rw [← HK.out]; exact HV.out⟩, rfl⟩
set_option maxRecDepth 100000 in
theorem slicesMax_any (a : Option Addr) (xs : List Int) (c : Nat) (w : World) (ha : Ints w a xs) (hl : xs.length ≤ 9223372036854775807) (h1 : 1 ≤ xs.length) :
    Calls Tryd.prog 109 #[.slice a xs.length c] w fun e w' => (∃ v : Int, e = .returned (.int .i64 v) ∧ ∀ c : Int, v ≤ c ↔ ∀ j, j < xs.length → nth xs j ≤ c) ∧ w = w' := by
  rcases ha with h | ⟨b, o, rfl, hc⟩
  · rw [h] at h1; exact absurd h1 (by decide)
  have g0 : w.cell? ⟨b, o, none⟩ = some (.int .i64 (nth xs 0)) := hc 0 (by omega)
  have hp : (0 : Int) < (xs.length : Int) := by omega
  have HC := Lib.hid hc
  clear hc
  go_enter Tryd.func109, Tryd.ntmps109
  go_wp2
  go_loop [3, 4] (fun m i => ∃ (k : Nat) (v : Int), 1 ≤ k ∧ k ≤ xs.length ∧ i = .int .i64 k ∧ m = .int .i64 v ∧ ∀ c : Int, v ≤ c ↔ ∀ j, j < k → nth xs j ≤ c)
    (fun _ i => xs.length - (intOf i).toNat)
  case atStart => exact ⟨1, _, by omega, by omega, rfl, rfl, fun c => ⟨fun h j hj => by rw [show j = 0 by omega]; exact h, fun h => h 0 (by omega)⟩⟩
  case round =>
    obtain ⟨k, v, hk1, hk, rfl, rfl, hv⟩ := hrel
    have HV := Lib.hid hv
    clear hv
    by_cases hlt : k < xs.length
    · have g1 := HC.out k hlt
      have hi0 : (k : Int) < (xs.length : Int) := by omega
      by_cases hm : v < nth xs k
      · go_wp2
        go_round
        case rel => exact ⟨k + 1, nth xs k, by omega, by omega, by go_num, by simp, fun c => ⟨fun h j hj => by
            by_cases e : j = k
            · subst e; exact h
            · exact (HV.out c).1 (by omega) j (by omega), fun h => h k (by omega)⟩⟩
        case measure => simp [intOf]; omega
      · go_wp2
        go_round
        case rel => exact ⟨k + 1, v, by omega, by omega, by go_num, by simp, fun c => ⟨fun h j hj => by
            by_cases e : j = k
            · subst e; omega
            · exact (HV.out c).1 h j (by omega), fun h => (HV.out c).2 fun j hj => h j (by omega)⟩⟩
        case measure => simp [intOf]; omega
    · have HK := Lib.hid (show k = xs.length by omega)
      go_wp2
      go_ret
      exact ⟨⟨v, rfl, by rw [← HK.out]; exact HV.out⟩, rfl⟩

set_option maxRecDepth 100000 in
theorem countGroups_any (m n : Nat) (w : World) (h : m ≤ 5) (hn : 2 ^ m = n) : Calls Tryd.prog 110 #[.int .i64 (m : Nat)] w fun e w' => e = .returned (.int .u64 (n : Nat)) ∧ w = w' := by
  have hm := Lib.hid (u64wrap_pow5 m h)
  have HN := Lib.hid hn
  clear hn
  go_enter Tryd.func110, Tryd.ntmps110
  go_wp2
  go_ret
  refine ⟨?_, rfl⟩
  rw [← HN.out, ← hm.out]
  rfl

/-- The array that has these ranks, with zeros behind them. -/
def arr32 (z : List Int) : Array Value := ((List.range 32).map fun i => Value.int .i64 (nth z i)).toArray
theorem arr32_size (z : List Int) : (arr32 z).size = 32 := by simp [arr32]
theorem arr32_lit (z : List Int) : arr32 z = #[.int .i64 (nth z 0), .int .i64 (nth z 1), .int .i64 (nth z 2), .int .i64 (nth z 3), .int .i64 (nth z 4), .int .i64 (nth z 5), .int .i64 (nth z 6), .int .i64 (nth z 7), .int .i64 (nth z 8), .int .i64 (nth z 9), .int .i64 (nth z 10), .int .i64 (nth z 11), .int .i64 (nth z 12), .int .i64 (nth z 13), .int .i64 (nth z 14), .int .i64 (nth z 15), .int .i64 (nth z 16), .int .i64 (nth z 17), .int .i64 (nth z 18), .int .i64 (nth z 19), .int .i64 (nth z 20), .int .i64 (nth z 21), .int .i64 (nth z 22), .int .i64 (nth z 23), .int .i64 (nth z 24), .int .i64 (nth z 25), .int .i64 (nth z 26), .int .i64 (nth z 27), .int .i64 (nth z 28), .int .i64 (nth z 29), .int .i64 (nth z 30), .int .i64 (nth z 31)] := rfl
theorem arr32_get (z : List Int) {i : Nat} (h : i < 32) : (arr32 z)[i]? = some (.int .i64 (nth z i)) := by simp [arr32, h]
theorem Boxes.arr {W : World} {B : Nat} {t : TypeId} {z : List Int} (h : Boxes W B t (arr32 z)) {i : Nat} (hi : i < 32) : W.cell? ⟨B, i, none⟩ = some (.int .i64 (nth z i)) := by rw [h.cell, arr32_get z hi]
theorem rkUnder : Tryd.prog.underlying 103 = some (.array 32 2) := by kernel_rfl
theorem rkSize : (Tryd.prog.info? 103).map (·.size) = some 32 := by kernel_rfl
theorem run_load32 {W : World} {B : Nat} {z : List Int} (h : Boxes W B 103 (arr32 z)) : (loadVar 103 ⟨B, 0, none⟩).run Tryd.prog W = .ok (.agg (arr32 z)) W :=
  run_loadVar_row W B _ _ (arr32 z) (0, 0) _ h rkUnder rfl (by rw [arr32_size]; exact rkSize)
theorem run_load32a {W : World} {B : Nat} {z : List Int} (h : Boxes W B 103 (arr32 z)) : (Instr.loadAt 103 (.pointer (some ⟨B, 0, none⟩))).run Tryd.prog W = .ok (.agg (arr32 z)) W := by
  simp only [Instr.loadAt, Instr.sureAddr, Sem.run_bind, Sem.run_pure, Result.andThen]
  exact run_load32 h
/-- A load of a whole array, guarded or not, as the walk over a list of operations meets it. -/
theorem wpList_load_arr {P : Program} {ops : Array Oper} {rest : List Oper} {o : Oper} {a : Act} {w : World} {Q : Exit → Act → World → Prop} (ty : TypeId) (x : Operand) (ho : o.op = .load ty x)
    (g : Nat) (hx : a.eval x = .pointer (some ⟨g, 0, none⟩)) (hw : Region.wanted o (yielded ops a.tmps) = true) (cs : Array Value) (n : Nat) (e : TypeId) (hg : w.heap[g]? = some (.cells cs ty (0, 0)))
    (hu : P.underlying ty = some (.array n e)) (hi : (P.info? ty).map (·.size) = some cs.size)
    (h : wpList P ops Q rest (a.put o.dst (.agg cs)) w) : wpList P ops Q (o :: rest) a w := by
  unfold wpList
  rw [if_pos hw]
  exact .inl (wp_load_row ty x ho g hx ty cs (0, 0) _ hg hu rfl hi h)
end Go.Proofs.YthmjcmhaijiedaaDoor

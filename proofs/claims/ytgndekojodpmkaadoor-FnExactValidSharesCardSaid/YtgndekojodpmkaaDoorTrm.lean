/- Zeros at the end of a curve: trimmed and scaled of the program. -/
import Derived.Test.YtgndekojodpmkaaDoorMpd
namespace Go.Proofs.YtgndekojodpmkaaDoor
open Go.RowKit Go.Deep
set_option linter.unusedVariables false

/-- How many items are left of the first k when zeros at their end are cut. -/
def cutTo (zs : List Int) : Nat → Nat
  | 0 => 0
  | k + 1 => if nth zs k = 0 then cutTo zs k else k + 1
def cut (zs : List Int) : List Int := zs.take (cutTo zs zs.length)
theorem cutTo_le (zs : List Int) (k : Nat) : cutTo zs k ≤ k := by
  induction k with
  | zero => exact Nat.le_refl _
  | succ k ih =>
    unfold cutTo
    split
    · omega
    · exact Nat.le_refl _
theorem cutTo_zero {zs : List Int} {k : Nat} (h : nth zs k = 0) : cutTo zs (k + 1) = cutTo zs k := by rw [cutTo, if_pos h]
theorem cutTo_stop {zs : List Int} {k : Nat} (h : nth zs k ≠ 0) : cutTo zs (k + 1) = k + 1 := by rw [cutTo, if_neg h]
theorem cut_len (zs : List Int) : (cut zs).length = cutTo zs zs.length := by
  unfold cut; rw [List.length_take]; have := cutTo_le zs zs.length; omega
theorem Nums.take {w : World} {a : Option Addr} {p : Int} {zs : List Int} (h : Nums w a p zs) (k : Nat) : Nums w a p (zs.take k) := by
  rcases h with h | ⟨b, ha, hc⟩
  · left; rw [h]; simp
  · refine .inr ⟨b, ha, fun i hi => ?_⟩
    have hi2 : i < k ∧ i < zs.length := by rw [List.length_take] at hi; omega
    have := hc i hi2.2
    rw [show nth (zs.take k) i = nth zs i by simp [nth, List.getD, hi2.1]]
    exact this
theorem OwnN.numsC {w : World} {base : Nat} {p : Int} {v : Value} {zs : List Int} (h : OwnN w base p v zs) : ∃ a c, v = .slice a zs.length c ∧ Nums w a p zs ∧ zs.length ≤ c ∧ c ≤ 9223372036854775807 := by
  rcases h.2 with ⟨hv, hn⟩ | ⟨g, cap, cur, hv, _, _, hc, hm, _⟩
  · exact ⟨none, 0, by rw [hv, hn], .inl (List.eq_nil_of_length_eq_zero hn), by omega, by omega⟩
  · obtain ⟨a, c, e, hN⟩ := h.nums
    rw [hv] at e
    injection e with e1 e2 e3
    subst e1
    exact ⟨_, cap, by rw [hv], hN, hc, by unfold maxLen at hm; omega⟩
def lenV : Value → Nat
  | .slice _ n _ => n
  | _ => 0

set_option maxRecDepth 100000 in
set_option maxHeartbeats 400000 in
theorem trimmed_any (p : Int) (a : Option Addr) (zs : List Int) (c : Nat) (w : World) (h : Nums w a p zs) (hl : zs.length ≤ 1048576) (hc : zs.length ≤ c) :
    Calls Tryd.prog 95 #[.slice a zs.length c] w fun e w' => e = .returned (.slice a (cut zs).length c) ∧ w = w' := by
  have HC := Lib.hid (cut_len zs)
  go_enter Tryd.func95, Tryd.ntmps95
  go_wp2_with fail
  go_loop [0] (fun v => ∃ k : Nat, k ≤ zs.length ∧ v = .slice a k c ∧ cutTo zs k = cutTo zs zs.length) (fun v => lenV v)
  case atStart => exact ⟨zs.length, Nat.le_refl _, rfl, rfl⟩
  case round =>
    obtain ⟨k, hk, rfl, hcut⟩ := hrel
    have HK := Lib.hid hcut
    clear hcut
    by_cases h0 : k = 0
    · have HE := Lib.hid (show cutTo zs zs.length = k by rw [← HK.out, h0]; rfl)
      have t0 : ¬ (0 : Int) < (k : Int) := by omega
      clear h0
      go_wp2
      go_ret
      exact ⟨by rw [HC.out, HE.out]; rfl, rfl⟩
    · obtain ⟨j, hj⟩ : ∃ j : Nat, k = j + 1 := ⟨k - 1, by omega⟩
      rcases h with h | ⟨b, rfl, hcc⟩
      · rw [h] at hk; simp at hk; exact absurd hk h0
      obtain ⟨-, hcell⟩ := hcc j (by omega)
      have t0 : (0 : Int) < (k : Int) := by omega
      have hkj : (k : Int) - 1 = (j : Int) := by omega
      have hjk : (j : Int) < (k : Int) := by omega
      have hjc : (j : Int) ≤ (c : Int) := by omega
      have hjc2 : j ≤ c := by omega
      have HJ := Lib.hid hj
      clear hcc h0 hj
      by_cases hz : nth zs j = 0
      · have tz : (nth zs j == 0) = true := by simp [hz]
        have HE := Lib.hid (show cutTo zs j = cutTo zs zs.length by rw [← HK.out, HJ.out, cutTo_zero hz])
        clear hz
        go_wp2
        go_round
        case rel => exact ⟨j, by omega, by first | rfl | simp, HE.out⟩
        case measure => simp [lenV]; omega
      · have tz : (nth zs j == 0) = false := by simp [hz]
        have HE := Lib.hid (show cutTo zs zs.length = k by rw [← HK.out, HJ.out, cutTo_stop hz])
        clear hz
        go_wp2
        go_ret
        exact ⟨by rw [HC.out, HE.out]; rfl, rfl⟩

/-- A curve to be read. -/
def GivesN (w : World) (p : Int) (zs : List Int) (e : Ending) (w' : World) : Prop := (∃ a c, e = .returned (.slice a zs.length c) ∧ Nums w' a p zs) ∧ Below w.heap.size w w'
set_option maxRecDepth 100000 in
set_option maxHeartbeats 400000 in
theorem scaled_any (p f : Int) (a : Option Addr) (zs : List Int) (c : Nat) (w : World) (h : Nums w a p zs) (hl : zs.length ≤ 1048576) (hp : 2 ≤ p) (hp1 : p ≤ 31) (hf : Elem p f) (he : Elems p zs) :
    Calls Tryd.prog 64 #[.slice a zs.length c, .agg #[.int .i64 p, .int .i64 f]] w (GivesN w p (cut (zs.map (fun x => f * x % p)))) := by
  have hmf : ∀ (fn : Fn) (first cap : Array Value) (w : World), (Instr.makeFunc fn first cap).run Tryd.prog w = .ok (.func fn first cap) w := fun _ _ _ _ => rfl
  have hl2 : (zs.map (fun x => f * x % p)).length ≤ 1048576 := by rw [List.length_map]; exact hl
  obtain ⟨ys, hys⟩ : ∃ ys, zs.map (fun x => f * x % p) = ys := ⟨_, rfl⟩
  rw [hys] at hl2
  rw [hys]
  have HY := Lib.hid hys
  clear hys
  have hb1 := (Below.refl w.heap.size w).alloc (Nat.le_refl _) (.cells #[.int .i64 p, .int .i64 f] 82)
  have HB1 := Lib.hid hb1
  have HI := Lib.hid (h.step hb1)
  clear h hb1
  go_enter Tryd.func64, Tryd.ntmps64
  go_wp2_with fail
  refine (mapTimes_any p f a zs c _ HI.out hl hp hp1 hf he).mono ?_
  rintro e w' ⟨⟨v, rfl, ho⟩, hb⟩
  rw [HY.out] at ho
  obtain ⟨a', c', rfl, hN, hcc, -⟩ := ho.numsC
  have HN := Lib.hid hN
  have HB := Lib.hid (HB1.out.trans (hb.mono HB1.out.size))
  clear ho hb hN
  go_wp2_with fail
  refine (trimmed_any p a' ys c' _ HN.out hl2 hcc).mono ?_
  rintro e w2 ⟨rfl, rfl⟩
  go_wp2_with fail
  go_ret
  exact ⟨⟨a', c', rfl, HN.out.take _⟩, HB.out⟩
end Go.Proofs.YtgndekojodpmkaaDoor

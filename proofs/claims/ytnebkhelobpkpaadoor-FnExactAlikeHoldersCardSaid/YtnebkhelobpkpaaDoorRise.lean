/- The contracts of the checks of groups: l00In, l00Rises, l01Group, l01Before, l01Bits, l01Within. -/
import Derived.Test.YtnebkhelobpkpaaDoorGrp
import Derived.Test.YtnebkhelobpkpaaDoorFam
namespace Go.Proofs.YtnebkhelobpkpaaDoor
open Go.RowKit Go.Deep

theorem swapped {P : Program} {f : FuncId} {args : Array Value} {w : World} {v : Value} (h : Calls P f args w fun e w' => e = .returned v ∧ w = w') : Calls P f args w fun e w' => e = .returned v ∧ w' = w :=
  h.mono fun _ _ ⟨h1, h2⟩ => ⟨h1, h2.symm⟩

set_option maxRecDepth 100000 in
theorem l00In_val (n lo hi : Int) (b : Bool) (w : World) (hb : (decide (lo ≤ n) && decide (n ≤ hi)) = b) : Calls Tryd.prog 74 #[.int .i64 n, .int .i64 lo, .int .i64 hi] w fun e w' => e = .returned (.bool b) ∧ w = w' := by
  subst hb
  by_cases h1 : lo ≤ n <;> by_cases h2 : n ≤ hi
  all_goals
    go_enter Tryd.func74, Tryd.ntmps74
    go_wp2
    go_ret
    simp [h1, h2]

set_option maxRecDepth 100000 in
set_option maxHeartbeats 400000 in
theorem l00Rises_any (a : Option Addr) (zs : List Int) (c : Nat) (lo hi : Int) (w : World) (h : Ints w a zs) (hl : zs.length ≤ 9223372036854775807) :
    Calls Tryd.prog 118 #[.slice a zs.length c, .int .i64 lo, .int .i64 hi] w fun e w' => e = .returned (.bool (tell (Rises lo hi zs))) ∧ Quiet w w' := by
  go_enter Tryd.func118, Tryd.ntmps118
  go_wp2
  go_loopw [7] (fun i wr => ∃ k : Nat, k ≤ zs.length ∧ i = .int .i64 k ∧ Quiet w wr ∧ ∀ j, j < k → GrpAt lo hi zs j)
    (fun i _ => zs.length - (intOf i).toNat)
  case atStart => exact ⟨0, Nat.zero_le _, rfl, Quiet.refl _, fun j hj => absurd hj (Nat.not_lt_zero _)⟩
  case round =>
    obtain ⟨k, hk, rfl, hq, hsm⟩ := hrel
    have HS := Lib.hid hsm
    have HQ := Lib.hid hq
    by_cases hlt : k < zs.length
    · rcases h.quiet hq with h | ⟨b, o, rfl, hc⟩
      · rw [h] at hlt; exact absurd hlt (Nat.not_lt_zero _)
      have hcell := hc k hlt
      have hi0 : (k : Int) < (zs.length : Int) := by omega
      have hcell1 := hc (k - 1) (by omega)
      clear hc hq hsm
      by_cases hr : lo ≤ nth zs k ∧ nth zs k ≤ hi
      · have hin : (decide (lo ≤ nth zs k) && decide (nth zs k ≤ hi)) = true := by simp [hr]
        by_cases hk0 : k = 0
        · have hd : decide (0 < k) = false := by simp; omega
          have HI := Lib.hid hin
          have HR := Lib.hid hr
          have HK := Lib.hid hk0
          clear hin hr hk0 hcell1
          go_wp2
          go_quiet ((go_at_call 74; exact Calls.quiet_of_same (swapped (l00In_val _ _ _ _ _ HI.out))))
          go_wp2
          go_roundw
          case rel => exact ⟨k + 1, by omega, by go_num, HQ.out.trans ⟨_, rfl⟩, rises_step HS.out ⟨HR.out.1, HR.out.2, fun h0 => by have := HK.out; omega⟩⟩
          case measure => simp [intOf]; omega
        · have hd : 0 < k := by omega
          have hd1 : (1 : Int) ≤ (k : Int) := by omega
          have HI := Lib.hid hin
          have HR := Lib.hid hr
          clear hin hr hk0
          by_cases hord : nth zs (k - 1) < nth zs k
          · have hord' : decide (nth zs k ≤ nth zs (k - 1)) = false := by simp; omega
            have HO := Lib.hid hord
            clear hord
            go_wp2
            go_quiet ((go_at_call 74; exact Calls.quiet_of_same (swapped (l00In_val _ _ _ _ _ HI.out))))
            go_wp2
            go_roundw
            case rel => exact ⟨k + 1, by omega, by go_num, HQ.out.trans ⟨_, rfl⟩, rises_step HS.out ⟨HR.out.1, HR.out.2, fun _ => HO.out⟩⟩
            case measure => simp [intOf]; omega
          · have hord' : decide (nth zs k ≤ nth zs (k - 1)) = true := by simp; omega
            have hno : ¬ Rises lo hi zs := fun hh => hord ((hh k hlt).2.2 (by omega))
            have HO := Lib.hid hno
            clear hord hno
            go_wp2
            go_quiet ((go_at_call 74; exact Calls.quiet_of_same (swapped (l00In_val _ _ _ _ _ HI.out))))
            go_wp2
            go_ret
            exact ⟨by rw [tell_false HO.out]; rfl, HQ.out.trans ⟨_, rfl⟩⟩
      · have hin : (decide (lo ≤ nth zs k) && decide (nth zs k ≤ hi)) = false := by simp; omega
        have hno : ¬ Rises lo hi zs := fun hh => hr ⟨(hh k hlt).1, (hh k hlt).2.1⟩
        have HI := Lib.hid hin
        have HO := Lib.hid hno
        clear hin hr hno hcell1
        go_wp2
        go_quiet ((go_at_call 74; exact Calls.quiet_of_same (swapped (l00In_val _ _ _ _ _ HI.out))))
        go_wp2
        go_ret
        exact ⟨by rw [tell_false HO.out]; rfl, HQ.out.trans ⟨_, rfl⟩⟩
    · have hyes : Rises lo hi zs := fun j hj => hsm j (by omega)
      have HY := Lib.hid hyes
      clear hyes hsm hq
      go_wp2
      go_ret
      exact ⟨by rw [tell_true HY.out]; rfl, HQ.out⟩
end Go.Proofs.YtnebkhelobpkpaaDoor

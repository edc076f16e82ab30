/- The first fault of ranks: firstFault of the program. -/
import Derived.Test.YthmjcmhaijiedaaDoorRv1
namespace Go.Proofs.YthmjcmhaijiedaaDoor
open Go.RowKit Go.Deep
set_option linter.unusedVariables false

def NoFault (z : List Int) (n : Nat) : Prop := ∀ a, a < n → ∀ b, b < n → ¬ BadAt z a b
def FaultAt (z : List Int) (n a b : Nat) : Prop := a < n ∧ b < n ∧ BadAt z a b ∧ (∀ x, x < a → ∀ y, y < n → ¬ BadAt z x y) ∧ ∀ y, y < b → ¬ BadAt z a y
/-- What tells the first fault. -/
structure GivesFault (W : World) (z : List Int) (n : Nat) (e : Ending) (w' : World) : Prop where
  val : (∃ a b : Nat, e = .returned (.tuple #[.int .u64 a, .int .u64 b, .bool true]) ∧ FaultAt z n a b) ∨ (e = .returned (.tuple #[.int .u64 0, .int .u64 0, .bool false]) ∧ NoFault z n)
  below : Below W.heap.size W w'

theorem two_ifaces (w : World) (x y : Value) (t : TypeId) : (w.alloc (.cells #[x, y] t)).cell? ⟨w.heap.size, 0, none⟩ = some x ∧ (w.alloc (.cells #[x, y] t)).cell? ⟨w.heap.size, 1, none⟩ = some y := ⟨by simp, by simp⟩

set_option maxHeartbeats 4000000 in
set_option maxRecDepth 100000 in
theorem firstFault_any (z : List Int) (m n : Nat) (w : World) (hm : m ≤ 5) (hn : 2 ^ m = n) (hz : Mild z) :
    Calls Tryd.prog 104 #[.agg (arr32 z), .int .i64 (m : Nat)] w (GivesFault w z n) := by
  have hn32 : n ≤ 32 := by rw [← hn]; exact pow5 hm
  have hbx := boxes_new w (arr32 z) 103
  have hb1 := (Below.refl w.heap.size w).alloc (Nat.le_refl _) (.cells (arr32 z) 103)
  have HLG := Lib.hid (fun a b W (ha : a < 32) (hb : b < 32) => leftGrowth_any z a b W hz ha hb)
  have HLM := Lib.hid (fun a b W (ha : a < 32) (hb : b < 32) => leftMeeting_any z a b W hz ha hb)
  have HRS := Lib.hid (show (Tryd.prog.info? 103).map (·.size) = some (arr32 z).size by rw [arr32_size]; exact rkSize)
  generalize arr32 z = R at *
  have HX := Lib.hid hbx
  have HB := Lib.hid hb1
  have HN := Lib.hid hn
  clear hbx hb1 hz hn
  go_enter Tryd.func104, Tryd.ntmps104
  go_wp2_with fail
  generalize w.alloc (.cells R 103) = w1 at *
  refine (countGroups_any m n w1 hm HN.out).mono ?_
  rintro e w1' ⟨rfl, rfl⟩
  go_wp2_with fail
  go_loopw [15] (fun i wr => ∃ k : Nat, i = .int .u64 k ∧ k ≤ n ∧ Below w1.heap.size w1 wr ∧ ∀ x, x < k → ∀ y, y < n → ¬ BadAt z x y)
    (fun i _ => n - (intOf i).toNat)
  case atStart => exact ⟨0, rfl, Nat.zero_le _, Below.refl _ _, fun x hx => absurd hx (Nat.not_lt_zero _)⟩
  case round =>
    obtain ⟨k, rfl, hk, hb, hno⟩ := hrel
    have HBR := Lib.hid hb
    have HA := Lib.hid hno
    clear hb hno
    by_cases hlt : k < n
    case neg =>
      have hi0 : ¬ (k : Int) < (n : Int) := by omega
      go_wp2_with fail
      refine bodyPost_ret (v := .tuple #[.int .u64 0, .int .u64 0, .bool false]) (by simp [results, Tryd.results104, go_sem]) rfl ⟨.inr ⟨rfl, fun x hx y hy => HA.out x (by omega) y hy⟩, chain HB.out HBR.out⟩
    have hi0 : (k : Int) < (n : Int) := by omega
    go_wp2_with fail
    go_loopw [19] (fun i wr2 => ∃ j : Nat, i = .int .u64 j ∧ j ≤ n ∧ Below w1.heap.size w1 wr2 ∧ ∀ y, y < j → ¬ BadAt z k y)
      (fun i _ => n - (intOf i).toNat)
    case atStart => exact ⟨0, rfl, Nat.zero_le _, HBR.out, fun y hy => absurd hy (Nat.not_lt_zero _)⟩
    case round =>
      obtain ⟨j, rfl, hj, hb2, hno2⟩ := hrel
      have HBR2 := Lib.hid hb2
      have HA2 := Lib.hid hno2
      clear hb2 hno2
      by_cases hltj : j < n
      case neg =>
        have hj0 : ¬ (j : Int) < (n : Int) := by omega
        go_wp2_with fail
        go_roundw
        case rel => exact ⟨k + 1, by go_num, by omega, HBR2.out, fun x hx y hy => by
          by_cases e : x = k
          · subst e; exact HA2.out y (by omega)
          · exact HA.out x (by omega) y hy⟩
        case measure => simp [intOf]; omega
      have hj0 : (j : Int) < (n : Int) := by omega
      go_wp2_with fail
      have hbi := (Below.refl wr.heap.size wr).alloc (Nat.le_refl _) (.cells #[.iface 190 (.agg #[.int .u64 (k : Nat), .int .u64 (j : Nat)]), .iface 192 (.agg #[.int .u64 (k : Nat), .int .u64 (j : Nat)])] 195)
      have hbxi := boxes_new wr #[.iface 190 (.agg #[.int .u64 (k : Nat), .int .u64 (j : Nat)]), .iface 192 (.agg #[.int .u64 (k : Nat), .int .u64 (j : Nat)])] 195
      generalize wr.alloc (.cells #[.iface 190 (.agg #[.int .u64 (k : Nat), .int .u64 (j : Nat)]), .iface 192 (.agg #[.int .u64 (k : Nat), .int .u64 (j : Nat)])] 195) = w3 at *
      have C0 := Lib.hid hbxi.c0
      have C1 := Lib.hid hbxi.c1
      have HX3 := Lib.hid ((HX.out.step HBR2.out).step hbi)
      have HB3 := Lib.hid (chain HBR2.out hbi)
      clear hbi hbxi
      go_loopw [32] (fun i wr3 => ∃ t : Nat, i = .int .i64 t ∧ t ≤ 2 ∧ Below w3.heap.size w3 wr3 ∧ (1 ≤ t → ¬ (k &&& j = k ∧ nth z j < nth z k)) ∧ (2 ≤ t → ¬ nth z k + nth z j < nth z (k ||| j) + nth z (k &&& j)))
        (fun i _ => 2 - (intOf i).toNat)
      case atStart => exact ⟨0, rfl, by omega, Below.refl _ _, fun h => absurd h (by omega), fun h => absurd h (by omega)⟩
      case round =>
        obtain ⟨t, rfl, ht, hb4, hg, hm2⟩ := hrel
        have HB4 := Lib.hid hb4
        have HG := Lib.hid hg
        have HM := Lib.hid hm2
        have e0 := cell_step hb4 C0.out
        have e1 := cell_step hb4 C1.out
        have HX4 := Lib.hid (HX3.out.step hb4)
        clear hb4 hg hm2
        obtain rfl | rfl | rfl : t = 0 ∨ t = 1 ∨ t = 2 := by omega
        · go_wp2_with fail
          refine (growthApplies_any k j _ (by omega) (by omega)).mono ?_
          rintro e w5 ⟨rfl, hb5⟩
          have HB5 := Lib.hid (chain HB4.out hb5)
          have hbx := HX4.out.step hb5
          clear hb5 e0 e1
          by_cases hkj : k &&& j = k
          · rw [tell_true hkj]
            have HKJ := Lib.hid hkj
            clear hkj
            go_wp2_with (refine wpList_load_arr 103 (.tmp 2) rfl w.heap.size rfl (by rfl) R 32 2 hbx rkUnder HRS.out ?_)
            refine (HLG.out k j _ (by omega) (by omega)).mono ?_
            rintro e w6 ⟨rfl, hb6⟩
            have HB6 := Lib.hid (chain HB5.out hb6)
            clear hb6 hbx
            by_cases hneg : nth z j - nth z k < 0
            · have HNG := Lib.hid (show nth z j < nth z k by omega)
              go_wp2_with fail
              go_ret3
              exact ⟨.inl ⟨k, j, rfl, hlt, hltj, .inl ⟨HKJ.out, HNG.out⟩, HA.out, HA2.out⟩, chain HB.out (chain HB3.out HB6.out)⟩
            · have HNG := Lib.hid (show ¬ nth z j < nth z k by omega)
              go_wp2_with fail
              go_roundw
              case rel => exact ⟨1, by go_num, by omega, HB6.out, fun _ f => absurd f.2 (by have := HNG.out; omega), fun h => absurd h (by omega)⟩
              case measure => simp [intOf]
          · rw [tell_false hkj]
            have HKJ := Lib.hid hkj
            clear hkj hbx
            go_wp2_with fail
            go_roundw
            case rel => exact ⟨1, by go_num, by omega, HB5.out, fun _ f => HKJ.out f.1, fun h => absurd h (by omega)⟩
            case measure => simp [intOf]
        · go_wp2_with fail
          refine (meetingApplies_any k j _).mono ?_
          rintro e w5 ⟨rfl, hb5⟩
          have HB5 := Lib.hid (chain HB4.out hb5)
          have hbx := HX4.out.step hb5
          clear hb5 e0 e1
          go_wp2_with (refine wpList_load_arr 103 (.tmp 2) rfl w.heap.size rfl (by rfl) R 32 2 hbx rkUnder HRS.out ?_)
          refine (HLM.out k j _ (by omega) (by omega)).mono ?_
          rintro e w6 ⟨rfl, hb6⟩
          have HB6 := Lib.hid (chain HB5.out hb6)
          clear hb6 hbx
          generalize hv : nth z k + nth z j - nth z (k ||| j) - nth z (k &&& j) = v
          have HV := Lib.hid hv
          clear hv
          by_cases hneg : v < 0
          · have HNG := Lib.hid (show nth z k + nth z j < nth z (k ||| j) + nth z (k &&& j) by have := HV.out; omega)
            go_wp2_with fail
            go_ret3
            exact ⟨.inl ⟨k, j, rfl, hlt, hltj, .inr HNG.out, HA.out, HA2.out⟩, chain HB.out (chain HB3.out HB6.out)⟩
          · have HNG := Lib.hid (show ¬ nth z k + nth z j < nth z (k ||| j) + nth z (k &&& j) by have := HV.out; omega)
            go_wp2_with fail
            go_roundw
            case rel => exact ⟨2, by go_num, by omega, HB6.out, fun _ => HG.out (by omega), fun _ f => absurd f (by have := HNG.out; omega)⟩
            case measure => simp [intOf]
        · clear e0 e1
          have HNB := Lib.hid (show ¬ BadAt z k j from fun f => by
            rcases f with f | f
            · exact HG.out (by omega) f
            · exact HM.out (by omega) f)
          go_wp2_with fail
          go_roundw
          case rel => exact ⟨j + 1, by go_num, by omega, chain HB3.out HB4.out, fun y hy => by
            by_cases e : y = j
            · subst e; exact HNB.out
            · exact HA2.out y (by omega)⟩
          case measure => simp [intOf]; omega
end Go.Proofs.YthmjcmhaijiedaaDoor

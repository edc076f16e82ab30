/- PutFamily: which groups it chooses. -/
import Derived.Test.YteifllengcacbaaDoorPum
import Derived.Test.YteifllengcacbaaDoorMinI
import Derived.Test.YteifllengcacbaaDoorTwo
namespace Go.Proofs.YteifllengcacbaaDoor
open Go.RowKit Go.Deep Go.Shelf
set_option linter.unusedVariables false

theorem put_g1 : ∀ k : Nat, k < 7 → ∀ x : Nat, x < 128 → bits BinOp.and IntKind.u64 (x : Int) ((2 ^ k - 1 : Nat) : Int) = (lowN k x : Nat) := by decide +kernel
set_option maxRecDepth 100000 in
set_option maxHeartbeats 1000000 in
theorem Pu_chooses (Bo Bj Bi Bu T1 T2 m n k i t : Nat) (p q : Nat → Bool) (w : World) (ho : w.cell? ⟨Bo, 0, none⟩ = some (.int .i64 (k : Nat))) (hj : w.cell? ⟨Bj, 0, none⟩ = some (.int .i64 (i : Nat))) (hi : w.cell? ⟨Bi, 0, none⟩ = some (.pointer (some ⟨T2, 0, none⟩))) (hu : w.cell? ⟨Bu, 0, none⟩ = some (.pointer (some ⟨T1, 0, none⟩)))
    (ht1 : TableAt w T1 m p) (ht2 : TableAt w T2 n q) (hk7 : k < 7) (hik : i ≤ k) :
    ChoosesC w 67 #[] #[.pointer (some ⟨Bo, 0, none⟩), .pointer (some ⟨Bj, 0, none⟩), .pointer (some ⟨Bi, 0, none⟩), .pointer (some ⟨Bu, 0, none⟩)] t (fun x => p (minN (q (x / 2 ^ k)) i (lowN k x))) := by
  refine ⟨enters_of Tryd.func67 (by kernel_rfl) rfl, fun x W hxt hb => ?_⟩
  have e1 := cell_step hb ho
  have e2 := cell_step hb hj
  have e3 := cell_step hb hi
  have e4 := cell_step hb hu
  have HT1 := Lib.hid (ht1.below hb (World.block_lt_of_cell? _ _ ht1.h0))
  have HT2 := Lib.hid (ht2.below hb (World.block_lt_of_cell? _ _ ht2.h0))
  have hx := x.isLt
  clear hb ho hj hi hu ht1 ht2 hxt
  show Calls Tryd.prog 67 #[.int .u64 (x.val : Int), .pointer (some ⟨Bo, 0, none⟩), .pointer (some ⟨Bj, 0, none⟩), .pointer (some ⟨Bi, 0, none⟩), .pointer (some ⟨Bu, 0, none⟩)] W _
  generalize x.val = x at *
  have f0 := put_g1 k hk7 x hx
  have hlow : lowN k x < 64 := Nat.lt_of_lt_of_le (low_lt k hk7 x hx) (Nat.pow_le_pow_right (by decide) (by omega : k ≤ 6) : 2 ^ k ≤ 2 ^ 6)
  have h128 := fun b => Nat.lt_of_lt_of_le (minN_lt b (by omega : k + 1 ≤ 7) (by omega : i < k + 1) (by rw [Nat.add_sub_cancel]; exact low_lt k hk7 x hx)) (Nat.pow_le_pow_right (by decide) (by omega) : 2 ^ (k + 1) ≤ 2 ^ 7)
  have hshr : (x : Int) / 2 ^ k = ((x / 2 ^ k : Nat) : Int) := by simp
  have hy128 : x / 2 ^ k < 128 := Nat.lt_of_le_of_lt (Nat.div_le_self _ _) hx
  have HC1 := Lib.hid (fun W1 (hW : Quiet W W1) => room_any (lowN k x) i W1 hlow (by omega))
  obtain ⟨M, hM⟩ : ∃ M, 2 ^ k - 1 = M := ⟨_, rfl⟩
  have HM := Lib.hid hM
  rw [hM] at f0
  clear hM
  generalize lowN k x = low at *
  generalize x / 2 ^ k = y at *
  have hw128 := h128 false
  have hm128 := h128 true
  have e5 : minN false i low = wideN i low := by unfold minN; simp
  have e6 : minN true i low = wideN i low ||| 2 ^ i := by unfold minN; simp
  rw [e5] at hw128
  rw [e6] at hm128
  have E5 := Lib.hid e5
  have E6 := Lib.hid e6
  clear e5 e6 h128
  obtain ⟨u, hu⟩ : ∃ u, q y = u := ⟨_, rfl⟩
  have HU := Lib.hid hu
  clear hu
  go_enter Tryd.func67, Tryd.ntmps67
  go_wp2
  go_quiet (first | (go_at_call 68; exact Calls.quiet_of_same (swapped (allH_any k M _ (by omega) HM.out))) | (go_at_call 59; exact Calls.quiet_of_same (swapped (HC1.out _ ⟨_, rfl⟩))))
  rename_i nq
  have hdN : Quiet W (W.drewN nq) := ⟨nq, rfl⟩
  replace e1 := (hdN.cell _).trans e1
  replace e2 := (hdN.cell _).trans e2
  replace e3 := (hdN.cell _).trans e3
  replace e4 := (hdN.cell _).trans e4
  replace HT1 := Lib.hid (HT1.out.step (quiet_below hdN))
  replace HT2 := Lib.hid (HT2.out.step (quiet_below hdN))
  have HB := Lib.hid (quiet_below hdN)
  clear hdN HC1
  generalize W.drewN nq = W2 at *
  have HC2 := Lib.hid (fun W1 (hW : Quiet W2 W1) => opens_any T2 n y q W1 hy128 (HT2.out.step (quiet_below hW)))
  rw [HU.out] at HC2
  generalize wideN i low = z at *
  go_wp2
  go_quiet ((go_at_call 47; exact Calls.quiet_of_same (swapped (HC2.out _ ⟨_, rfl⟩))))
  rename_i nq
  have hdN : Quiet W2 (W2.drewN nq) := ⟨nq, rfl⟩
  replace e2 := (hdN.cell _).trans e2
  replace e4 := (hdN.cell _).trans e4
  replace HT1 := Lib.hid (HT1.out.step (quiet_below hdN))
  replace HB := Lib.hid (chain HB.out (quiet_below hdN))
  clear hdN HC2 e1 e3 HT2
  generalize W2.drewN nq = W3 at *
  cases u with
  | false =>
    have HV := Lib.hid (show p (minN (q y) i low) = p z by rw [HU.out, E5.out])
    have HC3 := Lib.hid (opens_any T1 m z p W3 hw128 HT1.out)
    go_wp2_with (go_at_call 47; refine HC3.out.mono ?_; rintro e w' ⟨rfl, rfl⟩)
    go_ret
    exact ⟨ret_bool HV.out.symm, HB.out⟩
  | true =>
    have HV := Lib.hid (show p (minN (q y) i low) = p (z ||| 2 ^ i) by rw [HU.out, E6.out])
    have HC3 := Lib.hid (opens_any T1 m (z ||| 2 ^ i) p W3 hm128 HT1.out)
    go_wp2_with fail
    refine (with_any z (i : Int) W3 hw128 (by omega) (by omega)).mono ?_
    rw [Int.toNat_natCast]
    rintro e w' ⟨rfl, rfl⟩
    generalize z ||| 2 ^ i = zz at *
    go_wp2_with (go_at_call 47; refine HC3.out.mono ?_; rintro e w' ⟨rfl, rfl⟩)
    go_ret
    exact ⟨ret_bool HV.out.symm, HB.out⟩
end Go.Proofs.YteifllengcacbaaDoor

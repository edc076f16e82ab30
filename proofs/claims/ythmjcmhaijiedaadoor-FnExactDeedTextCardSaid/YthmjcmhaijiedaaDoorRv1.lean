/- Inequalities of the program: applies, leftSide. -/
import Derived.Test.YthmjcmhaijiedaaDoorRv0
import Derived.BigQuiet
import Derived.Handy
namespace Go.Proofs.YthmjcmhaijiedaaDoor
open Go.RowKit Go.Deep
set_option linter.unusedVariables false

set_option maxRecDepth 100000 in
theorem assert_gg (x : Value) (w : World) : (Instr.typeAssert (.iface 190 x) 195 190 true).run Tryd.prog w = .ok (.tuple #[x, .bool true]) w := by first | rfl | kernel_rfl
set_option maxRecDepth 100000 in
theorem assert_mg (x : Value) (w : World) : (Instr.typeAssert (.iface 192 x) 195 190 true).run Tryd.prog w = .ok (.tuple #[.agg #[.int .u64 0, .int .u64 0], .bool false]) w := by first | rfl | kernel_rfl
set_option maxRecDepth 100000 in
theorem assert_mm (x : Value) (w : World) : (Instr.typeAssert (.iface 192 x) 195 192 true).run Tryd.prog w = .ok (.tuple #[x, .bool true]) w := by first | rfl | kernel_rfl

set_option maxRecDepth 100000 in
theorem growthApplies_any (a b : Nat) (w : World) (ha : a < 128) (hb : b < 128) :
    Calls Tryd.prog 219 #[.agg #[.int .u64 a, .int .u64 b]] w fun e w' => e = .returned (.bool (tell (a &&& b = a))) ∧ Below w.heap.size w w' := by
  have hb1 := (Below.refl w.heap.size w).alloc (Nat.le_refl _) (.cells #[.int .u64 a, .int .u64 b] 190)
  go_enter Tryd.func219, Tryd.ntmps219
  go_wp2_with fail
  refine (within_any a b _ ha hb).mono ?_
  rintro e w' ⟨rfl, rfl⟩
  go_wp2_with fail
  go_ret
  exact ⟨rfl, hb1⟩
set_option maxRecDepth 100000 in
theorem meetingApplies_any (a b : Nat) (w : World) :
    Calls Tryd.prog 220 #[.agg #[.int .u64 a, .int .u64 b]] w fun e w' => e = .returned (.bool true) ∧ Below w.heap.size w w' := by
  have hb1 := (Below.refl w.heap.size w).alloc (Nat.le_refl _) (.cells #[.int .u64 a, .int .u64 b] 192)
  go_enter Tryd.func220, Tryd.ntmps220
  go_wp2_with fail
  go_ret
  exact ⟨rfl, hb1⟩

theorem u64_or_nat (a b : Nat) (ha : a < 128) (hb : b < 128) : bits .or .u64 (a : Int) (b : Int) = ((a ||| b : Nat) : Int) := (show ∀ x : Nat, x < 128 → ∀ y : Nat, y < 128 → bits .or .u64 (x : Int) (y : Int) = ((x ||| y : Nat) : Int) by decide +kernel) a ha b hb
theorem u64_and_nat (a b : Nat) (ha : a < 128) (hb : b < 128) : bits .and .u64 (a : Int) (b : Int) = ((a &&& b : Nat) : Int) := (show ∀ x : Nat, x < 128 → ∀ y : Nat, y < 128 → bits .and .u64 (x : Int) (y : Int) = ((x &&& y : Nat) : Int) by decide +kernel) a ha b hb
theorem arr_cells (z : List Int) : (Value.agg (arr32 z)).cells = arr32 z := rfl
set_option maxRecDepth 100000 in
set_option maxHeartbeats 2000000 in
theorem leftGrowth_any (z : List Int) (a b : Nat) (w : World) (hz : Mild z) (ha : a < 32) (hb : b < 32) :
    Calls Tryd.prog 142 #[.agg (arr32 z), .iface 190 (.agg #[.int .u64 a, .int .u64 b])] w fun e w' => e = .returned (.int .i64 (nth z b - nth z a)) ∧ Below w.heap.size w w' := by
  have hax := assert_gg (.agg #[.int .u64 a, .int .u64 b])
  have hbx := boxes_new w (arr32 z) 103
  have hb1 := (Below.refl w.heap.size w).alloc (Nat.le_refl _) (.cells (arr32 z) 103)
  have b1 := hz a
  have b2 := hz b
  have hai : (a : Int) < 32 := by omega
  have hbi : (b : Int) < 32 := by omega
  have g1 := hbx.arr ha
  have g2 := hbx.arr hb
  generalize nth z a = x1 at *
  generalize nth z b = x2 at *
  have s1 : IntKind.i64.wrap (x2 - x1) = x2 - x1 := IntWalk.i64_in _ (by omega)
  generalize hR : arr32 z = R at *
  have hb2 := (Below.refl (w.alloc (.cells R 103)).heap.size (w.alloc (.cells R 103))).alloc (Nat.le_refl _) (.cells #[.int .u64 a, .int .u64 b] 190)
  have hbn := boxes_new (w.alloc (.cells R 103)) #[.int .u64 a, .int .u64 b] 190
  rw [World.size_alloc] at hbn
  have k0 := hbn.c0
  have k1 := hbn.c1
  replace g1 := cell_step hb2 g1
  replace g2 := cell_step hb2 g2
  have HB := Lib.hid (chain hb1 hb2)
  clear hR hz b1 b2 hbx hb1 hb2 hbn
  go_enter Tryd.func142, Tryd.ntmps142
  go_wp2_with fail
  generalize (w.alloc (.cells R 103)).alloc (.cells #[.int .u64 a, .int .u64 b] 190) = w1 at *
  go_big_quiet (fail)
  go_wp2
  go_ret
  refine ⟨rfl, ?_⟩
  exact chain HB.out (quiet_below ⟨_, rfl⟩)

set_option maxRecDepth 100000 in
set_option maxHeartbeats 2000000 in
theorem leftMeeting_any (z : List Int) (a b : Nat) (w : World) (hz : Mild z) (ha : a < 32) (hb : b < 32) :
    Calls Tryd.prog 142 #[.agg (arr32 z), .iface 192 (.agg #[.int .u64 a, .int .u64 b])] w fun e w' => e = .returned (.int .i64 (nth z a + nth z b - nth z (a ||| b) - nth z (a &&& b))) ∧ Below w.heap.size w w' := by
  have hax := assert_mg (.agg #[.int .u64 a, .int .u64 b])
  have hax2 := assert_mm (.agg #[.int .u64 a, .int .u64 b])
  have hbx := boxes_new w (arr32 z) 103
  have hb1 := (Below.refl w.heap.size w).alloc (Nat.le_refl _) (.cells (arr32 z) 103)
  obtain ⟨p, hp⟩ : ∃ p, a ||| b = p := ⟨_, rfl⟩
  obtain ⟨q, hqq⟩ : ∃ q, a &&& b = q := ⟨_, rfl⟩
  have hp1 : p < 32 := by rw [← hp]; exact Nat.or_lt_two_pow (n := 5) ha hb
  have hq1 : q < 32 := by rw [← hqq]; exact Nat.lt_of_le_of_lt Nat.and_le_left ha
  have eo : bits BinOp.or IntKind.u64 (a : Int) (b : Int) = (p : Int) := by rw [← hp]; exact u64_or_nat _ _ (by omega) (by omega)
  have ea : bits BinOp.and IntKind.u64 (a : Int) (b : Int) = (q : Int) := by rw [← hqq]; exact u64_and_nat _ _ (by omega) (by omega)
  rw [hp, hqq]
  have b1 := hz a
  have b2 := hz b
  have b3 := hz p
  have b4 := hz q
  have hai : (a : Int) < 32 := by omega
  have hbi : (b : Int) < 32 := by omega
  have hpi : (p : Int) < 32 := by omega
  have hqi : (q : Int) < 32 := by omega
  have g1 := hbx.arr ha
  have g2 := hbx.arr hb
  have g3 := hbx.arr hp1
  have g4 := hbx.arr hq1
  generalize nth z a = x1 at *
  generalize nth z b = x2 at *
  generalize nth z p = x3 at *
  generalize nth z q = x4 at *
  have s1 : IntKind.i64.wrap (x1 + x2) = x1 + x2 := IntWalk.i64_in _ (by omega)
  have s2 : IntKind.i64.wrap (x1 + x2 - x3) = x1 + x2 - x3 := IntWalk.i64_in _ (by omega)
  have s3 : IntKind.i64.wrap (x1 + x2 - x3 - x4) = x1 + x2 - x3 - x4 := IntWalk.i64_in _ (by omega)
  generalize hR : arr32 z = R at *
  have hb2 := (Below.refl (w.alloc (.cells R 103)).heap.size (w.alloc (.cells R 103))).alloc (Nat.le_refl _) (.cells #[.int .u64 a, .int .u64 b] 192)
  have hbn := boxes_new (w.alloc (.cells R 103)) #[.int .u64 a, .int .u64 b] 192
  rw [World.size_alloc] at hbn
  have k0 := hbn.c0
  have k1 := hbn.c1
  replace g1 := cell_step hb2 g1
  replace g2 := cell_step hb2 g2
  replace g3 := cell_step hb2 g3
  replace g4 := cell_step hb2 g4
  have HB := Lib.hid (chain hb1 hb2)
  clear hR hz b1 b2 b3 b4 hbx hb1 hb2 hbn hp hqq
  go_enter Tryd.func142, Tryd.ntmps142
  go_wp2_with fail
  generalize (w.alloc (.cells R 103)).alloc (.cells #[.int .u64 a, .int .u64 b] 192) = w1 at *
  go_big_quiet (fail)
  go_wp2
  go_ret
  refine ⟨rfl, ?_⟩
  exact chain HB.out (quiet_below ⟨_, rfl⟩)
end Go.Proofs.YthmjcmhaijiedaaDoor

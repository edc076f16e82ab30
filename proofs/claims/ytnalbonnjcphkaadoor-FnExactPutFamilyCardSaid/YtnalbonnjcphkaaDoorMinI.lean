/- WithoutHolder and TrustHolder, the model's and the program's. -/
import Derived.Test.YtnalbonnjcphkaaDoorMin
namespace Go.Proofs.YtnalbonnjcphkaaDoor
open Go.RowKit Go.Deep Go.Shelf
set_option linter.unusedVariables false

theorem room_1 : ∀ k : Nat, k < 7 → ∀ x : Nat, x < 64 → bits BinOp.and IntKind.u64 (x : Int) ((2 ^ k - 1 : Nat) : Int) = (lowN k x : Nat) := by decide +kernel
theorem room_2 : ∀ k : Nat, k < 7 → ∀ x : Nat, x < 64 → bits BinOp.andNot IntKind.u64 (x : Int) ((lowN k x : Nat) : Int) = (highN k x : Nat) := by decide +kernel
theorem room_3 : ∀ k : Nat, k < 7 → ∀ x : Nat, x < 64 → bits BinOp.or IntKind.u64 ((lowN k x : Nat) : Int) (((highN k x : Nat) : Int) * 2) = (wideN k x : Nat) := by decide +kernel
theorem room_4 : ∀ k : Nat, k < 7 → ∀ x : Nat, x < 64 → bits BinOp.or IntKind.u64 ((lowN k x : Nat) : Int) (IntKind.u64.wrap (((highN k x : Nat) : Int) * 2)) = (wideN k x : Nat) := by decide +kernel
theorem wide_128 : ∀ k : Nat, k < 7 → ∀ x : Nat, x < 64 → wideN k x < 128 := by decide +kernel
set_option maxRecDepth 100000 in
theorem room_any (x k : Nat) (w : World) (hx : x < 64) (hk : k < 7) : Calls Tryd.prog 54 #[.int .u64 x, .int .i64 (k : Nat)] w fun e w' => e = .returned (.int .u64 ((wideN k x : Nat) : Int)) ∧ w = w' := by
  have u1 := room_1 k hk x hx
  have u2 := room_2 k hk x hx
  have u3 := room_3 k hk x hx
  have u4 := room_4 k hk x hx
  have u5 := high_lt k hk x hx
  obtain ⟨M, hM⟩ : ∃ M, 2 ^ k - 1 = M := ⟨_, rfl⟩
  rw [hM] at u1
  have HM := Lib.hid hM
  clear hM
  generalize wideN k x = y at *
  generalize highN k x = hi at *
  generalize lowN k x = lo at *
  go_enter Tryd.func54, Tryd.ntmps54
  go_wp2_with (go_at_call 53; refine (allH_any k M w (by omega) HM.out).mono ?_; rintro e w' ⟨rfl, rfl⟩)
  go_ret
  exact ⟨rfl, rfl⟩

/-- What gives a table that a holder is to leave. -/
def Leaves (W : World) (h : Int) (zss : List (List Int)) (k : Int) (e : Ending) (w' : World) : Prop :=
  ((∃ T, FamOk h zss ∧ (0 ≤ k ∧ k < h) ∧ h ≠ 1 ∧ e = .returned (.tuple #[.pointer (some ⟨T, 0, none⟩), .int .i64 0]) ∧ TableAt w' T h.toNat (tabOf h zss)) ∨
   (∃ code : Int, (code = 1 ∨ code = 2 ∨ code = 4) ∧ (∀ tr, minOf tr h zss k = noFam code) ∧ e = .returned (.tuple #[.pointer none, .int .i64 code]))) ∧ Below W.heap.size W w'

end Go.Proofs.YtnalbonnjcphkaaDoor

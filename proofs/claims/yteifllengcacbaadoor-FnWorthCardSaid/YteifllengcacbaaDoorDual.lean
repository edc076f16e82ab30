/- DualFamily, the model's and the program's. -/
import Derived.Test.YteifllengcacbaaDoorTbl
import Derived.Test.YteifllengcacbaaDoorTof
import Derived.Test.YteifllengcacbaaDoorFw
namespace Go.Proofs.YteifllengcacbaaDoor
open Go.RowKit Go.Deep Go.Shelf
set_option linter.unusedVariables false

/-- All others of so many. -/
def offIn (m x : Nat) : Nat := (2 ^ m - 1) &&& (127 - x)
theorem off_fact : ∀ m : Nat, m ≤ 7 → ∀ x : Nat, x < 128 → bits BinOp.andNot IntKind.u64 ((2 ^ m - 1 : Nat) : Int) (x : Int) = (offIn m x : Nat) := by decide +kernel
theorem off_sub : ∀ m : Nat, m ≤ 7 → ∀ x : Nat, x < 128 → x < 2 ^ m → offIn m x = 2 ^ m - 1 - x := by decide +kernel
theorem off_lt {m : Nat} (x : Nat) (hm : m ≤ 7) : offIn m x < 128 := by
  have : (2 : Nat) ^ m ≤ 2 ^ 7 := Nat.pow_le_pow_right (by decide) hm
  have h1 : (2 : Nat) ^ m - 1 < 128 := by omega
  exact Nat.lt_of_le_of_lt Nat.and_le_left h1
theorem mask_all : ∀ n : Nat, n ≤ 7 → IntKind.u64.wrap (IntKind.u64.wrap ((2 : Int) ^ n) - 1) = ((2 ^ n - 1 : Nat) : Int) := by decide +kernel
set_option maxRecDepth 100000 in
theorem allH_any (h M : Nat) (w : World) (h2 : h ≤ 7) (hM : 2 ^ h - 1 = M) : Calls Tryd.prog 68 #[.int .i64 (h : Nat)] w fun e w' => e = .returned (.int .u64 (M : Int)) ∧ w = w' := by
  have hm := Lib.hid (mask_all h h2)
  have HM := Lib.hid hM
  clear hM
  go_enter Tryd.func68, Tryd.ntmps68
  go_wp2
  go_ret
  refine ⟨?_, rfl⟩
  rw [← HM.out, ← hm.out]
  rfl

set_option maxRecDepth 100000 in
theorem opensDual_any (T h x : Nat) (q : Nat → Bool) (w : World) (hx : x < 128) (h7 : h ≤ 7) (ht : TableAt w T h q) : Calls Tryd.prog 52 #[.pointer (some ⟨T, 0, none⟩), .int .u64 x] w fun e w' => e = .returned (.bool (!q (offIn h x))) ∧ Below w.heap.size w w' := by
  have h0 := ht.h0
  have hy := off_lt x h7
  have hc := ht.cell (offIn h x) hy
  obtain ⟨M, hM⟩ : ∃ M, 2 ^ h - 1 = M := ⟨_, rfl⟩
  have hof := off_fact h h7 x hx
  rw [hM] at hof
  have HM := Lib.hid hM
  clear ht hM
  generalize offIn h x = y at *
  have hyi : ((y : Nat) : Int) < 128 := by omega
  go_enter Tryd.func52, Tryd.ntmps52
  go_wp2
  go_quiet ((go_at_call 68; exact Calls.quiet_of_same (swapped (allH_any h M _ h7 HM.out))))
  go_wp2
  go_ret
  exact ⟨rfl, quiet_below ⟨_, rfl⟩⟩

theorem dual_chooses (T h : Nat) (q : Nat → Bool) (w : World) (h7 : h ≤ 7) (ht : TableAt w T h q) : Chooses w 52 #[.pointer (some ⟨T, 0, none⟩)] #[] (fun x => !q (offIn h x)) := by
  refine ⟨enters_of Tryd.func52 (by kernel_rfl) rfl, fun x W hb => ?_⟩
  show Calls Tryd.prog 52 #[.pointer (some ⟨T, 0, none⟩), .int .u64 (x.val : Int)] W _
  have hT : TableAt W T h q := ht.below hb (World.block_lt_of_cell? _ _ ht.h0)
  exact opensDual_any T h x.val q W x.isLt h7 hT

/-- The groups that the dual opens. -/
def dualB (m : Nat) (zss : List (List Int)) (x : Nat) : Bool := !tblAt zss zss.length (2 ^ m - 1 - x)
noncomputable def dualOf (h : Int) (zss : List (List Int)) : FR := if tell (FamOk h zss) = true then ⟨h, famOf h.toNat (dualB h.toNat zss), 0⟩ else noFam 1
theorem dualOf_yes {m : Nat} {zss : List (List Int)} (k : FamOk (m : Int) zss) : dualOf (m : Int) zss = ⟨(m : Nat), famOf m (dualB m zss), 0⟩ := by rw [dualOf, if_pos (tell_true k), Int.toNat_natCast]
theorem dualOf_no {h : Int} {zss : List (List Int)} (k : ¬ FamOk h zss) : dualOf h zss = noFam 1 := by rw [dualOf, if_neg (by rw [tell_false k]; simp)]

end Go.Proofs.YteifllengcacbaaDoor

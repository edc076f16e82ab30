/- makeRoom of the program; ranks without a holder. -/
import Derived.Test.YtdfggbojccfblaaRby
namespace Go.Proofs.Ytdfggbojccfblaa
open Go.RowKit Go.Deep Go.Shelf
set_option linter.unusedVariables false

def lowN (k x : Nat) : Nat := x &&& (2 ^ k - 1)
def highN (k x : Nat) : Nat := x - lowN k x
/-- The group with room for a holder. -/
def wideN (k x : Nat) : Nat := lowN k x ||| (highN k x * 2)
theorem mask_all : ∀ n : Nat, n ≤ 7 → IntKind.u64.wrap (IntKind.u64.wrap ((2 : Int) ^ n) - 1) = ((2 ^ n - 1 : Nat) : Int) := by decide +kernel
set_option maxRecDepth 100000 in
theorem allH_any (h M : Nat) (w : World) (h2 : h ≤ 7) (hM : 2 ^ h - 1 = M) : Calls Try.prog 67 #[.int .i64 (h : Nat)] w fun e w' => e = .returned (.int .u64 (M : Int)) ∧ w = w' := by
  have hm := Lib.hid (mask_all h h2)
  have HM := Lib.hid hM
  clear hM
  go_enter Try.func67, Try.ntmps67
  go_wp2
  go_ret
  refine ⟨?_, rfl⟩
  rw [← HM.out, ← hm.out]
  rfl
theorem room_1 : ∀ k : Nat, k < 5 → ∀ x : Nat, x < 16 → bits BinOp.and IntKind.u64 (x : Int) ((2 ^ k - 1 : Nat) : Int) = (lowN k x : Nat) := by decide +kernel
theorem room_2 : ∀ k : Nat, k < 5 → ∀ x : Nat, x < 16 → bits BinOp.andNot IntKind.u64 (x : Int) ((lowN k x : Nat) : Int) = (highN k x : Nat) := by decide +kernel
theorem room_3 : ∀ k : Nat, k < 5 → ∀ x : Nat, x < 16 → bits BinOp.or IntKind.u64 ((lowN k x : Nat) : Int) (((highN k x : Nat) : Int) * 2) = (wideN k x : Nat) := by decide +kernel
theorem room_4 : ∀ k : Nat, k < 5 → ∀ x : Nat, x < 16 → bits BinOp.or IntKind.u64 ((lowN k x : Nat) : Int) (IntKind.u64.wrap (((highN k x : Nat) : Int) * 2)) = (wideN k x : Nat) := by decide +kernel
theorem high_lt : ∀ k : Nat, k < 5 → ∀ x : Nat, x < 16 → highN k x < 64 := by decide +kernel
theorem wide_lt : ∀ m : Nat, m ≤ 5 → ∀ k : Nat, k < m → ∀ x : Nat, x < 16 → x < 2 ^ (m - 1) → wideN k x < 2 ^ m := by decide +kernel
set_option maxRecDepth 100000 in
theorem room_any (x k : Nat) (w : World) (hx : x < 16) (hk : k < 5) : Calls Try.prog 56 #[.int .u64 x, .int .i64 (k : Nat)] w fun e w' => e = .returned (.int .u64 ((wideN k x : Nat) : Int)) ∧ w = w' := by
  have u1 := room_1 k hk x hx
  have u2 := room_2 k hk x hx
  have u3 := room_3 k hk x hx
  have u4 := room_4 k hk x hx
  have u5 := high_lt k hk x hx
  obtain ⟨M, hM⟩ : ∃ M, 2 ^ k - 1 = M := ⟨_, rfl⟩
  rw [hM] at u1
  have HM := Lib.hid hM
  clear hM
  generalize wideN k x = y at *
  generalize highN k x = hi at *
  generalize lowN k x = lo at *
  go_enter Try.func56, Try.ntmps56
  go_wp2_with (go_at_call 67; refine (allH_any k M w (by omega) HM.out).mono ?_; rintro e w' ⟨rfl, rfl⟩)
  go_ret
  exact ⟨rfl, rfl⟩

noncomputable def crC (h l : Int) (z : List Int) (k : Int) : Int := if tell (RkOk h l z) = true then (if tell ((0 ≤ k ∧ k < h) ∧ h ≠ 1) = true then 0 else 2) else 1
noncomputable def crH (h l : Int) (z : List Int) (k : Int) : Int := if crC h l z k = 0 then h - 1 else 0
noncomputable def crL (h l : Int) (z : List Int) (k : Int) : Int := if crC h l z k = 0 then l else 0
def cutZ (z : List Int) (k n : Nat) : List Int := numsBy (fun x => nth z (wideN k x)) n
noncomputable def crZ (h l : Int) (z : List Int) (k : Int) : List Int := if crC h l z k = 0 then cutZ z k.toNat (2 ^ (h.toNat - 1)) else []
theorem cr_bad {h l : Int} {z : List Int} {k : Int} (q : ¬ RkOk h l z) : crC h l z k = 1 := by unfold crC; rw [if_neg]; rw [tell_false q]; simp
theorem cr_out {h l : Int} {z : List Int} {k : Int} (q : RkOk h l z) (r : ¬ ((0 ≤ k ∧ k < h) ∧ h ≠ 1)) : crC h l z k = 2 := by unfold crC; rw [if_pos (tell_true q), if_neg]; rw [tell_false r]; simp
theorem cr_in {h l : Int} {z : List Int} {k : Int} (q : RkOk h l z) (r : (0 ≤ k ∧ k < h) ∧ h ≠ 1) : crC h l z k = 0 := by unfold crC; rw [if_pos (tell_true q), if_pos (tell_true r)]
theorem cr_no {h l : Int} {z : List Int} {k : Int} (q : crC h l z k ≠ 0) : crH h l z k = 0 ∧ crL h l z k = 0 ∧ crZ h l z k = [] := ⟨if_neg q, if_neg q, if_neg q⟩
theorem cr_yes {h l : Int} {z : List Int} {k : Int} (q : crC h l z k = 0) : crH h l z k = h - 1 ∧ crL h l z k = l ∧ crZ h l z k = cutZ z k.toNat (2 ^ (h.toNat - 1)) := ⟨if_pos q, if_pos q, if_pos q⟩
theorem cr_small (h l : Int) (z : List Int) (k : Int) : SmI (crZ h l z k) := by
  by_cases q : crC h l z k = 0
  · have hk : RkOk h l z := by
      false_or_by_contra
      rename_i f
      rw [cr_bad f] at q
      exact absurd q (by decide)
    have hh := hk.1.1
    rw [(cr_yes q).2.2]
    refine ⟨?_⟩
    unfold cutZ
    rw [numsBy_len]
    have : (2 : Nat) ^ (h.toNat - 1) ≤ 32 := pow5 (by omega)
    omega
  · rw [(cr_no q).2.2]; exact ⟨by simp⟩
/-- What gives no ranks but a code. -/
theorem GivesKY.none {W W' : World} {code : Int} (hb : Below W.heap.size W W') : GivesKY W 0 0 [] code (.returned (.tuple #[.agg #[.int .i64 0, .int .i64 0, .slice none 0 0], .int .i64 code])) W' := ⟨⟨_, rfl, OwnI.nil _ _⟩, hb⟩
theorem gives_none {W W' : World} {h l code : Int} {z : List Int} (e1 : h = 0) (e2 : l = 0) (e3 : z = []) {cc : Int} (e4 : code = cc) (hb : Below W.heap.size W W') : GivesKY W h l z code (.returned (.tuple #[.agg #[.int .i64 0, .int .i64 0, .slice none 0 0], .int .i64 cc])) W' := by
  subst e1 e2 e3 e4; exact .none hb
end Go.Proofs.Ytdfggbojccfblaa

/- The model's ThresholdFamily and WeightedFamily. -/
import Derived.Test.YteifllengcacbaaDoorWts
namespace Go.Proofs.YteifllengcacbaaDoor
open Go.RowKit Go.Deep Go.Shelf
set_option linter.unusedVariables false

def ThrOk (n k : Int) : Prop := (1 ≤ n ∧ n ≤ 7) ∧ 0 ≤ k ∧ k ≤ n + 1
noncomputable def thrOf (n k : Int) : FR := if tell (ThrOk n k) = true then ⟨n, famOf n.toNat (fun x => decide (k ≤ ((listOf x).length : Nat))), 0⟩ else noFam 2
theorem thrOf_yes {n k : Int} (h : ThrOk n k) : thrOf n k = ⟨n, famOf n.toNat (fun x => decide (k ≤ ((listOf x).length : Nat))), 0⟩ := by rw [thrOf, if_pos (tell_true h)]
theorem thrOf_no {n k : Int} (h : ¬ ThrOk n k) : thrOf n k = noFam 2 := by rw [thrOf, if_neg (by rw [tell_false h]; simp)]

def WtdOk (zs : List Int) (quota : Int) : Prop := (1 ≤ zs.length ∧ zs.length ≤ 7) ∧ (0 ≤ quota ∧ quota ≤ 7001) ∧ ∀ i, i < zs.length → 0 ≤ nth zs i ∧ nth zs i ≤ 1000
noncomputable def wtdOf (zs : List Int) (quota : Int) : FR := if tell (WtdOk zs quota) = true then ⟨(zs.length : Nat), famOf zs.length (heavy zs quota), 0⟩ else noFam 2
theorem wtdOf_yes {zs : List Int} {k : Int} (h : WtdOk zs k) : wtdOf zs k = ⟨(zs.length : Nat), famOf zs.length (heavy zs k), 0⟩ := by rw [wtdOf, if_pos (tell_true h)]
theorem wtdOf_no {zs : List Int} {k : Int} (h : ¬ WtdOk zs k) : wtdOf zs k = noFam 2 := by rw [wtdOf, if_neg (by rw [tell_false h]; simp)]

theorem ones_fact : ∀ n : Fin 8, ∀ x : Fin 128, x.val < 2 ^ n.val → wsum (List.replicate n.val 1) x.val n.val = ((listOf x.val).length : Nat) := by decide +kernel
theorem famOf_ones {n : Nat} (h7 : n ≤ 7) (k : Int) : famOf (List.replicate n (1 : Int)).length (heavy (List.replicate n 1) k) = famOf n (fun x => decide (k ≤ ((listOf x).length : Nat))) := by
  rw [List.length_replicate]
  refine famOf_congr h7 fun y hy => ?_
  have hy7 : y < 128 := Nat.lt_of_lt_of_le hy (Nat.pow_le_pow_right (by decide) h7 : 2 ^ n ≤ 2 ^ 7)
  unfold heavy
  rw [List.length_replicate, ones_fact ⟨n, by omega⟩ ⟨y, hy7⟩ hy]

theorem rep_snoc (k : Nat) : vals (List.replicate (k + 1) 1) = vals (List.replicate k 1) ++ [.int .i64 1] := by
  rw [List.replicate_succ']; simp [vals]

end Go.Proofs.YteifllengcacbaaDoor

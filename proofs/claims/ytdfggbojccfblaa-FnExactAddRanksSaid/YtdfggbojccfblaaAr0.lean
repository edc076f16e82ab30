/- AddRanks: what it answers. -/
import Derived.Test.YtdfggbojccfblaaRcm
namespace Go.Proofs.Ytdfggbojccfblaa
open Go.RowKit Go.Deep Go.Shelf
set_option linter.unusedVariables false

def addZ (z y : List Int) : List Int := numsBy (fun i => nth z i + nth y i) z.length
def FitS (l l1 : Int) (z y : List Int) : Prop := l + l1 ≤ 100000 ∧ ∀ i, i < z.length → nth z i + nth y i ≤ 100000
theorem addZ_len (z y : List Int) : (addZ z y).length = z.length := numsBy_len _ _
theorem addZ_nth (z y : List Int) {i : Nat} (h : i < z.length) : nth (addZ z y) i = nth z i + nth y i := numsBy_nth _ h
theorem RkOk.meets {h l : Int} {z : List Int} (k : RkOk h l z) : Meets z z.length := k.2.2.2
theorem add_ok {m : Nat} {l l1 : Int} {z y : List Int} (hz : RkOk (m : Int) l z) (hy : RkOk (m : Int) l1 y) : RkOk (m : Int) (l + l1) (addZ z y) ↔ FitS l l1 z y := by
  have e1 := hz.len
  have e2 := hy.len
  have hyz : y.length = z.length := by omega
  have hpos : 0 < z.length := by rw [e1]; exact Nat.pow_pos (by decide)
  have a1 := hz.1.2.1
  have a2 := hy.1.2.1
  constructor
  · intro k
    refine ⟨k.1.2.1.2, fun i hi => ?_⟩
    have := (k.2.2.1 i (by rw [addZ_len]; exact hi)).2
    rwa [addZ_nth z y hi] at this
  · intro k
    refine ⟨⟨hz.1.1, ⟨by omega, k.1⟩, by rw [addZ_len]; exact hz.1.2.2⟩, ?_, ?_, ?_⟩
    · rw [addZ_nth z y hpos, hz.2.1, hy.2.1]; rfl
    · intro i hi
      rw [addZ_len] at hi
      rw [addZ_nth z y hi]
      have b1 := hz.2.2.1 i hi
      have b2 := hy.2.2.1 i (by omega)
      have := k.2 i hi
      omega
    · rw [addZ_len]
      intro p hp q hq
      have hor : p ||| q < z.length := by rw [e1]; exact Nat.or_lt_two_pow (by omega) (by omega)
      have han : p &&& q < z.length := Nat.lt_of_le_of_lt Nat.and_le_left hp
      have m1 := hz.meets p hp q hq
      have m2 := hy.meets p (by omega) q (by omega)
      rw [addZ_nth z y hp, addZ_nth z y hq, addZ_nth z y hor, addZ_nth z y han]
      refine ⟨fun f => ?_, by omega⟩
      have := m1.1 f
      have := m2.1 f
      omega
noncomputable def arC (h l : Int) (z : List Int) (h1 l1 : Int) (y : List Int) : Int := if tell (RkOk h l z ∧ RkOk h1 l1 y) = true then (if tell (h = h1) = true then (if tell (FitS l l1 z y) = true then 0 else 3) else 2) else 1
noncomputable def arH (h l : Int) (z : List Int) (h1 l1 : Int) (y : List Int) : Int := if arC h l z h1 l1 y = 0 then h else 0
noncomputable def arL (h l : Int) (z : List Int) (h1 l1 : Int) (y : List Int) : Int := if arC h l z h1 l1 y = 0 then l + l1 else 0
noncomputable def arZ (h l : Int) (z : List Int) (h1 l1 : Int) (y : List Int) : List Int := if arC h l z h1 l1 y = 0 then addZ z y else []
section
variable {h l : Int} {z : List Int} {h1 l1 : Int} {y : List Int}
theorem ar_bad (q : ¬ (RkOk h l z ∧ RkOk h1 l1 y)) : arC h l z h1 l1 y = 1 := by unfold arC; rw [if_neg]; rw [tell_false q]; simp
theorem ar_two (q : RkOk h l z ∧ RkOk h1 l1 y) (r : h ≠ h1) : arC h l z h1 l1 y = 2 := by unfold arC; rw [if_pos (tell_true q), if_neg]; rw [tell_false r]; simp
theorem ar_big (q : RkOk h l z ∧ RkOk h1 l1 y) (r : h = h1) (f : ¬ FitS l l1 z y) : arC h l z h1 l1 y = 3 := by unfold arC; rw [if_pos (tell_true q), if_pos (tell_true r), if_neg]; rw [tell_false f]; simp
theorem ar_in (q : RkOk h l z ∧ RkOk h1 l1 y) (r : h = h1) (f : FitS l l1 z y) : arC h l z h1 l1 y = 0 := by unfold arC; rw [if_pos (tell_true q), if_pos (tell_true r), if_pos (tell_true f)]
theorem ar_no (q : arC h l z h1 l1 y ≠ 0) : arH h l z h1 l1 y = 0 ∧ arL h l z h1 l1 y = 0 ∧ arZ h l z h1 l1 y = [] := ⟨if_neg q, if_neg q, if_neg q⟩
theorem ar_yes (q : arC h l z h1 l1 y = 0) : arH h l z h1 l1 y = h ∧ arL h l z h1 l1 y = l + l1 ∧ arZ h l z h1 l1 y = addZ z y := ⟨if_pos q, if_pos q, if_pos q⟩
end
theorem ar_small (h l : Int) (z : List Int) (h1 l1 : Int) (y : List Int) : SmI (arZ h l z h1 l1 y) := by
  by_cases q : arC h l z h1 l1 y = 0
  · have hk : RkOk h l z := by
      false_or_by_contra
      rename_i f
      rw [ar_bad (fun g => f g.1)] at q
      exact absurd q (by decide)
    have hh := hk.1.1
    rw [(ar_yes q).2.2]
    refine ⟨?_⟩
    rw [addZ_len, hk.1.2.2]
    have : (2 : Nat) ^ h.toNat ≤ 32 := pow5 (by omega)
    omega
  · rw [(ar_no q).2.2]; exact ⟨by simp⟩
end Go.Proofs.Ytdfggbojccfblaa

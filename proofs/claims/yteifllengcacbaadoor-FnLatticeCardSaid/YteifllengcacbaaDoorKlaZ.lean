/- 'laws.FnLattice': for all arguments the program's function gives what the model gives, and writes into nothing that it was given. Tied to the program's text: what the library's tables hold. No other condition. -/
import Derived.Test.YteifllengcacbaaDoorFgZ
import Derived.Test.YteifllengcacbaaDoorDualI
import Derived.Test.YteifllengcacbaaDoorPairI
import Derived.Deep.RegionHeld3
import Derived.BigQuiet
import Derived.Test.YteifllengcacbaaDoorOpen
import Derived.Test.YteifllengcacbaaDoorCpf
import Derived.LaidHandle
import Derived.LaidLaws
import Derived.LaidMore
import Derived.Test.YteifllengcacbaaDoorKlaC
import Derived.Test.YteifllengcacbaaDoorKlaD
import Derived.Test.YteifllengcacbaaDoorTie
namespace Go.Proofs.YteifllengcacbaaDoor
open Go.RowKit Go.Deep Go.Joins
set_option linter.unusedVariables false

theorem dualG {m : Nat} (a : Option Addr) (zss : List (List Int)) (c : Nat) (w : World) (m1 : 1 ≤ m) (h7 : m ≤ 7) (hf : FamOk (m : Int) zss) (hr : Rows2 w a zss) :
    Calls Tryd.prog 23 #[.agg #[.int .i64 (m : Nat), .slice a zss.length c]] w fun e w' => GF w' m (dualB m zss) e ∧ Below w.heap.size w w' := by
  have h := implDual_any (m : Int) a zss c w hr (fam_small h7 hf)
  rw [dualOf_yes hf] at h
  exact h.mono fun e w' g => ⟨GF.of m1 h7 (dual_mono m zss) g, g.below⟩
theorem pair_mono (m : Nat) (both : Bool) (z1 z2 : List (List Int)) : Mono m (pairB both z1 z2) := fun x y hx hy hs h => by
  have t1 := tbl_mono m z1 z1.length x y hx hy hs
  have t2 := tbl_mono m z2 z2.length x y hx hy hs
  unfold pairB at h ⊢
  cases both with
  | true =>
    simp only [cond_true, Bool.and_eq_true] at h ⊢
    exact ⟨t1 h.1, t2 h.2⟩
  | false =>
    simp only [cond_false, Bool.or_eq_true] at h ⊢
    exact h.imp t1 t2
theorem eitherG {m : Nat} (a1 : Option Addr) (z1 : List (List Int)) (c1 : Nat) (a2 : Option Addr) (z2 : List (List Int)) (c2 : Nat) (w : World) (m1 : 1 ≤ m) (h7 : m ≤ 7) (hf1 : FamOk (m : Int) z1) (hf2 : FamOk (m : Int) z2) (hr1 : Rows2 w a1 z1) (hr2 : Rows2 w a2 z2) :
    Calls Tryd.prog 25 #[.agg #[.int .i64 (m : Nat), .slice a1 z1.length c1], .agg #[.int .i64 (m : Nat), .slice a2 z2.length c2]] w fun e w' => GF w' m (pairB false z1 z2) e ∧ Below w.heap.size w w' := by
  have h := implEi_any (m : Int) a1 z1 c1 (m : Int) a2 z2 c2 w hr1 (fam_small h7 hf1) hr2 (fam_small h7 hf2)
  rw [pairOf_yes hf1 hf2] at h
  exact h.mono fun e w' g => ⟨GF.of m1 h7 (pair_mono m false z1 z2) g, g.below⟩
theorem bothG {m : Nat} (a1 : Option Addr) (z1 : List (List Int)) (c1 : Nat) (a2 : Option Addr) (z2 : List (List Int)) (c2 : Nat) (w : World) (m1 : 1 ≤ m) (h7 : m ≤ 7) (hf1 : FamOk (m : Int) z1) (hf2 : FamOk (m : Int) z2) (hr1 : Rows2 w a1 z1) (hr2 : Rows2 w a2 z2) :
    Calls Tryd.prog 26 #[.agg #[.int .i64 (m : Nat), .slice a1 z1.length c1], .agg #[.int .i64 (m : Nat), .slice a2 z2.length c2]] w fun e w' => GF w' m (pairB true z1 z2) e ∧ Below w.heap.size w w' := by
  have h := implBo_any (m : Int) a1 z1 c1 (m : Int) a2 z2 c2 w hr1 (fam_small h7 hf1) hr2 (fam_small h7 hf2)
  rw [pairOf_yes hf1 hf2] at h
  exact h.mono fun e w' g => ⟨GF.of m1 h7 (pair_mono m true z1 z2) g, g.below⟩
end Go.Proofs.YteifllengcacbaaDoor

namespace Go.Proofs.YteifllengcacbaaDoor
open Go.ChangeShapes Go.WideShapes Go.ChangeAt Go.RowKit Go.Deep Go.Joins
set_option linter.unusedVariables false
namespace Latt

set_option maxRecDepth 100000 in
set_option maxHeartbeats 8000000 in
theorem law (a0 : Option Addr) (z0 : List Int) (c0 : Nat) (a1 : Option Addr) (z1 : List Int) (c1 : Nat) (w : World) (hr0 : Bytes w a0 z0) (hl0 : z0.length ≤ 9223372036854775807) (hr1 : Bytes w a1 z1) (hl1 : z1.length ≤ 9223372036854775807) :
    Calls Tryd.prog 5 #[.slice a0 z0.length c0, .slice a1 z1.length c1] w fun e w' => e = .returned (.bool true) ∧ Below w.heap.size w w' := by
  have R0 := Lib.hid hr0
  have R1 := Lib.hid hr1
  clear hr0 hr1
  by_cases hlong : 3000 < z0.length ∨ 3000 < z1.length
  · have HT := Lib.hid (tell_true hlong)
    clear hlong
    go_enter Tryd.func5, Tryd.ntmps5
    go_wp2_with fail
    refine (a2Long_any a0 a1 z0 z1 c0 c1 w).mono ?_
    rintro e w' ⟨rfl, rfl⟩
    rw [HT.out]
    go_wp2_with fail
    go_ret
    exact ⟨rfl, Below.refl _ _⟩
  have HT := Lib.hid (tell_false hlong)
  have s0 : z0.length ≤ 3000 := by omega
  have s1 : z1.length ≤ 3000 := by omega
  clear hlong
  go_enter Tryd.func5, Tryd.ntmps5
  go_wp2_with fail
  refine (a2Long_any a0 a1 z0 z1 c0 c1 w).mono ?_
  rintro e w' ⟨rfl, rfl⟩
  rw [HT.out]
  have HBW := Lib.hid (Below.refl w.heap.size w)
  go_wp2_with fail
  refine (A2Family_any a0 z0 c0 w R0.out s0).mono ?_
  rintro e w1 ⟨⟨m, m1, m5, ⟨fa, fz, fc, rfl, hok, hr⟩⟩, hb⟩
  replace R0 := Lib.hid (R0.out.step hb)
  replace R1 := Lib.hid (R1.out.step hb)
  replace HBW := Lib.hid (chain HBW.out hb)
  have HOF := Lib.hid hok
  have HRF := Lib.hid hr
  clear hb hok hr
  have m7 : m ≤ 7 := by omega
  have hba := al_b w1 (.cells #[.int .i64 (m : Nat), .slice fa fz.length fc] 26)
  have hx : Boxes (w1.alloc (.cells #[.int .i64 (m : Nat), .slice fa fz.length fc] 26)) w1.heap.size 26 #[.int .i64 (m : Nat), .slice fa fz.length fc] := World.alloc_heap_new _ _
  go_wp2_with fail
  replace R0 := Lib.hid (R0.out.step hba)
  replace R1 := Lib.hid (R1.out.step hba)
  replace HRF := Lib.hid (HRF.out.step hba)
  replace HBW := Lib.hid (chain HBW.out hba)
  have HXF := Lib.hid hx
  clear hba hx
  generalize w1.alloc (.cells #[.int .i64 (m : Nat), .slice fa fz.length fc] 26) = w2 at *
  generalize w1.heap.size = Fo at *
  have aF0 := HXF.out.c0
  have aF1 := HXF.out.c1
  have aFl := HXF.out.lt
  refine (A2FamilyOf_any a1 z1 c1 m w2 R1.out s1 m1 m7).mono ?_
  rintro e w3 ⟨⟨ga, gz, gc, rfl, hok, hr⟩, hb⟩
  clear aF0 aF1 aFl
  replace R0 := Lib.hid (R0.out.step hb)
  replace R1 := Lib.hid (R1.out.step hb)
  replace HRF := Lib.hid (HRF.out.step hb)
  replace HXF := Lib.hid (HXF.out.step hb)
  replace HBW := Lib.hid (chain HBW.out hb)
  have HOG := Lib.hid hok
  have HRG := Lib.hid hr
  clear hb hok hr
  have hba := al_b w3 (.cells #[.int .i64 (m : Nat), .slice ga gz.length gc] 26)
  have hx : Boxes (w3.alloc (.cells #[.int .i64 (m : Nat), .slice ga gz.length gc] 26)) w3.heap.size 26 #[.int .i64 (m : Nat), .slice ga gz.length gc] := World.alloc_heap_new _ _
  have aF0 := HXF.out.c0
  have aF1 := HXF.out.c1
  have aFl := HXF.out.lt
  go_wp2_with fail
  clear aF0 aF1 aFl
  replace R0 := Lib.hid (R0.out.step hba)
  replace R1 := Lib.hid (R1.out.step hba)
  replace HRF := Lib.hid (HRF.out.step hba)
  replace HXF := Lib.hid (HXF.out.step hba)
  replace HRG := Lib.hid (HRG.out.step hba)
  replace HBW := Lib.hid (chain HBW.out hba)
  have HXG := Lib.hid hx
  clear hba hx
  generalize w3.alloc (.cells #[.int .i64 (m : Nat), .slice ga gz.length gc] 26) = w4 at *
  generalize w3.heap.size = Go at *
  have aF0 := HXF.out.c0
  have aF1 := HXF.out.c1
  have aFl := HXF.out.lt
  have aG0 := HXG.out.c0
  have aG1 := HXG.out.c1
  have aGl := HXG.out.lt
  refine (A2Group_any a0 z0 c0 m w4 R0.out s0 m7).mono ?_
  rintro e w5 ⟨⟨x, xa, xc, hx, rfl, hi⟩, hb⟩
  clear aF0 aF1 aFl aG0 aG1 aGl
  replace R0 := Lib.hid (R0.out.step hb)
  replace R1 := Lib.hid (R1.out.step hb)
  replace HRF := Lib.hid (HRF.out.step hb)
  replace HXF := Lib.hid (HXF.out.step hb)
  replace HRG := Lib.hid (HRG.out.step hb)
  replace HXG := Lib.hid (HXG.out.step hb)
  replace HBW := Lib.hid (chain HBW.out hb)
  have HX := Lib.hid hx
  have HI := Lib.hid hi
  clear hb hx hi
  obtain ⟨bx, hbx⟩ : ∃ b, tblAt fz fz.length x = b := ⟨_, rfl⟩
  obtain ⟨by1, hby⟩ : ∃ b, tblAt gz gz.length x = b := ⟨_, rfl⟩
  have HBX := Lib.hid hbx
  have HBY := Lib.hid hby
  clear hbx hby
  have aF0 := HXF.out.c0
  have aF1 := HXF.out.c1
  have aFl := HXF.out.lt
  have aG0 := HXG.out.c0
  have aG1 := HXG.out.c1
  have aGl := HXG.out.lt
  go_wp2_with fail
  refine (eitherG fa fz fc ga gz gc w5 m1 m7 HOF.out HOG.out HRF.out HRG.out).mono ?_
  rintro e w6 ⟨⟨ua, uz, uc, rfl, hok, ht, hr⟩, hb⟩
  clear aF0 aF1 aFl aG0 aG1 aGl
  replace R0 := Lib.hid (R0.out.step hb)
  replace R1 := Lib.hid (R1.out.step hb)
  replace HRF := Lib.hid (HRF.out.step hb)
  replace HXF := Lib.hid (HXF.out.step hb)
  replace HRG := Lib.hid (HRG.out.step hb)
  replace HXG := Lib.hid (HXG.out.step hb)
  replace HI := Lib.hid (HI.out.step hb)
  replace HBW := Lib.hid (chain HBW.out hb)
  have HOU := Lib.hid hok
  have HTU := Lib.hid ht
  have HRU := Lib.hid hr
  clear hb hok ht hr
  have hba := al_b w6 (.cells #[.int .i64 (m : Nat), .slice ua uz.length uc] 26)
  have hx : Boxes (w6.alloc (.cells #[.int .i64 (m : Nat), .slice ua uz.length uc] 26)) w6.heap.size 26 #[.int .i64 (m : Nat), .slice ua uz.length uc] := World.alloc_heap_new _ _
  have aF0 := HXF.out.c0
  have aF1 := HXF.out.c1
  have aFl := HXF.out.lt
  have aG0 := HXG.out.c0
  have aG1 := HXG.out.c1
  have aGl := HXG.out.lt
  go_wp2_with fail
  clear aF0 aF1 aFl aG0 aG1 aGl
  replace R0 := Lib.hid (R0.out.step hba)
  replace R1 := Lib.hid (R1.out.step hba)
  replace HRF := Lib.hid (HRF.out.step hba)
  replace HXF := Lib.hid (HXF.out.step hba)
  replace HRG := Lib.hid (HRG.out.step hba)
  replace HXG := Lib.hid (HXG.out.step hba)
  replace HI := Lib.hid (HI.out.step hba)
  replace HRU := Lib.hid (HRU.out.step hba)
  replace HBW := Lib.hid (chain HBW.out hba)
  have HXU := Lib.hid hx
  clear hba hx
  generalize w6.alloc (.cells #[.int .i64 (m : Nat), .slice ua uz.length uc] 26) = w7 at *
  generalize w6.heap.size = Uo at *
  have aF0 := HXF.out.c0
  have aF1 := HXF.out.c1
  have aFl := HXF.out.lt
  have aG0 := HXG.out.c0
  have aG1 := HXG.out.c1
  have aGl := HXG.out.lt
  have aU0 := HXU.out.c0
  have aU1 := HXU.out.c1
  have aUl := HXU.out.lt
  refine (bothG fa fz fc ga gz gc w7 m1 m7 HOF.out HOG.out HRF.out HRG.out).mono ?_
  rintro e w8 ⟨⟨va, vz, vc, rfl, hok, ht, hr⟩, hb⟩
  clear aF0 aF1 aFl aG0 aG1 aGl aU0 aU1 aUl
  replace R0 := Lib.hid (R0.out.step hb)
  replace R1 := Lib.hid (R1.out.step hb)
  replace HRF := Lib.hid (HRF.out.step hb)
  replace HXF := Lib.hid (HXF.out.step hb)
  replace HRG := Lib.hid (HRG.out.step hb)
  replace HXG := Lib.hid (HXG.out.step hb)
  replace HI := Lib.hid (HI.out.step hb)
  replace HRU := Lib.hid (HRU.out.step hb)
  replace HXU := Lib.hid (HXU.out.step hb)
  replace HBW := Lib.hid (chain HBW.out hb)
  have HOV := Lib.hid hok
  have HTV := Lib.hid ht
  have HRV := Lib.hid hr
  clear hb hok ht hr
  have hba := al_b w8 (.cells #[.int .i64 (m : Nat), .slice va vz.length vc] 26)
  have hx : Boxes (w8.alloc (.cells #[.int .i64 (m : Nat), .slice va vz.length vc] 26)) w8.heap.size 26 #[.int .i64 (m : Nat), .slice va vz.length vc] := World.alloc_heap_new _ _
  have aF0 := HXF.out.c0
  have aF1 := HXF.out.c1
  have aFl := HXF.out.lt
  have aG0 := HXG.out.c0
  have aG1 := HXG.out.c1
  have aGl := HXG.out.lt
  have aU0 := HXU.out.c0
  have aU1 := HXU.out.c1
  have aUl := HXU.out.lt
  go_wp2_with fail
  clear aF0 aF1 aFl aG0 aG1 aGl aU0 aU1 aUl
  replace R0 := Lib.hid (R0.out.step hba)
  replace R1 := Lib.hid (R1.out.step hba)
  replace HRF := Lib.hid (HRF.out.step hba)
  replace HXF := Lib.hid (HXF.out.step hba)
  replace HRG := Lib.hid (HRG.out.step hba)
  replace HXG := Lib.hid (HXG.out.step hba)
  replace HI := Lib.hid (HI.out.step hba)
  replace HRU := Lib.hid (HRU.out.step hba)
  replace HXU := Lib.hid (HXU.out.step hba)
  replace HRV := Lib.hid (HRV.out.step hba)
  replace HBW := Lib.hid (chain HBW.out hba)
  have HXV := Lib.hid hx
  clear hba hx
  generalize w8.alloc (.cells #[.int .i64 (m : Nat), .slice va vz.length vc] 26) = w9 at *
  generalize w8.heap.size = Vo at *
  have aF0 := HXF.out.c0
  have aF1 := HXF.out.c1
  have aFl := HXF.out.lt
  have aG0 := HXG.out.c0
  have aG1 := HXG.out.c1
  have aGl := HXG.out.lt
  have aU0 := HXU.out.c0
  have aU1 := HXU.out.c1
  have aUl := HXU.out.lt
  have aV0 := HXV.out.c0
  have aV1 := HXV.out.c1
  have aVl := HXV.out.lt
  refine (mayX fa fz fc xa xc w9 m7 HX.out HOF.out HRF.out HI.out).mono ?_
  rintro e w10 ⟨rfl, hb⟩
  clear aF0 aF1 aFl aG0 aG1 aGl aU0 aU1 aUl aV0 aV1 aVl
  replace R0 := Lib.hid (R0.out.step hb)
  replace R1 := Lib.hid (R1.out.step hb)
  replace HRF := Lib.hid (HRF.out.step hb)
  replace HXF := Lib.hid (HXF.out.step hb)
  replace HRG := Lib.hid (HRG.out.step hb)
  replace HXG := Lib.hid (HXG.out.step hb)
  replace HI := Lib.hid (HI.out.step hb)
  replace HRU := Lib.hid (HRU.out.step hb)
  replace HXU := Lib.hid (HXU.out.step hb)
  replace HRV := Lib.hid (HRV.out.step hb)
  replace HXV := Lib.hid (HXV.out.step hb)
  replace HBW := Lib.hid (chain HBW.out hb)
  clear hb
  rw [HBX.out]
  have aF0 := HXF.out.c0
  have aF1 := HXF.out.c1
  have aFl := HXF.out.lt
  have aG0 := HXG.out.c0
  have aG1 := HXG.out.c1
  have aGl := HXG.out.lt
  have aU0 := HXU.out.c0
  have aU1 := HXU.out.c1
  have aUl := HXU.out.lt
  have aV0 := HXV.out.c0
  have aV1 := HXV.out.c1
  have aVl := HXV.out.lt
  go_wp2_with fail
  refine (mayX ga gz gc xa xc w10 m7 HX.out HOG.out HRG.out HI.out).mono ?_
  rintro e w11 ⟨rfl, hb⟩
  clear aF0 aF1 aFl aG0 aG1 aGl aU0 aU1 aUl aV0 aV1 aVl
  replace R0 := Lib.hid (R0.out.step hb)
  replace R1 := Lib.hid (R1.out.step hb)
  replace HRF := Lib.hid (HRF.out.step hb)
  replace HXF := Lib.hid (HXF.out.step hb)
  replace HRG := Lib.hid (HRG.out.step hb)
  replace HXG := Lib.hid (HXG.out.step hb)
  replace HI := Lib.hid (HI.out.step hb)
  replace HRU := Lib.hid (HRU.out.step hb)
  replace HXU := Lib.hid (HXU.out.step hb)
  replace HRV := Lib.hid (HRV.out.step hb)
  replace HXV := Lib.hid (HXV.out.step hb)
  replace HBW := Lib.hid (chain HBW.out hb)
  clear hb
  rw [HBY.out]
  have aF0 := HXF.out.c0
  have aF1 := HXF.out.c1
  have aFl := HXF.out.lt
  have aG0 := HXG.out.c0
  have aG1 := HXG.out.c1
  have aGl := HXG.out.lt
  have aU0 := HXU.out.c0
  have aU1 := HXU.out.c1
  have aUl := HXU.out.lt
  have aV0 := HXV.out.c0
  have aV1 := HXV.out.c1
  have aVl := HXV.out.lt
  go_wp2_with fail
  refine (mayX ua uz uc xa xc w11 m7 HX.out HOU.out HRU.out HI.out).mono ?_
  rintro e w12 ⟨rfl, hb⟩
  clear aF0 aF1 aFl aG0 aG1 aGl aU0 aU1 aUl aV0 aV1 aVl
  replace R0 := Lib.hid (R0.out.step hb)
  replace R1 := Lib.hid (R1.out.step hb)
  replace HRF := Lib.hid (HRF.out.step hb)
  replace HXF := Lib.hid (HXF.out.step hb)
  replace HRG := Lib.hid (HRG.out.step hb)
  replace HXG := Lib.hid (HXG.out.step hb)
  replace HI := Lib.hid (HI.out.step hb)
  replace HRU := Lib.hid (HRU.out.step hb)
  replace HXU := Lib.hid (HXU.out.step hb)
  replace HRV := Lib.hid (HRV.out.step hb)
  replace HXV := Lib.hid (HXV.out.step hb)
  replace HBW := Lib.hid (chain HBW.out hb)
  clear hb
  rw [show tblAt uz uz.length x = (bx || by1) by rw [HTU.out x HX.out, ← HBX.out, ← HBY.out]; rfl]
  have aF0 := HXF.out.c0
  have aF1 := HXF.out.c1
  have aFl := HXF.out.lt
  have aG0 := HXG.out.c0
  have aG1 := HXG.out.c1
  have aGl := HXG.out.lt
  have aU0 := HXU.out.c0
  have aU1 := HXU.out.c1
  have aUl := HXU.out.lt
  have aV0 := HXV.out.c0
  have aV1 := HXV.out.c1
  have aVl := HXV.out.lt
  go_wp2_with fail
  refine (mayX va vz vc xa xc w12 m7 HX.out HOV.out HRV.out HI.out).mono ?_
  rintro e w13 ⟨rfl, hb⟩
  clear aF0 aF1 aFl aG0 aG1 aGl aU0 aU1 aUl aV0 aV1 aVl
  replace R0 := Lib.hid (R0.out.step hb)
  replace R1 := Lib.hid (R1.out.step hb)
  replace HRF := Lib.hid (HRF.out.step hb)
  replace HXF := Lib.hid (HXF.out.step hb)
  replace HRG := Lib.hid (HRG.out.step hb)
  replace HXG := Lib.hid (HXG.out.step hb)
  replace HI := Lib.hid (HI.out.step hb)
  replace HRU := Lib.hid (HRU.out.step hb)
  replace HXU := Lib.hid (HXU.out.step hb)
  replace HRV := Lib.hid (HRV.out.step hb)
  replace HXV := Lib.hid (HXV.out.step hb)
  replace HBW := Lib.hid (chain HBW.out hb)
  clear hb
  rw [show tblAt vz vz.length x = (bx && by1) by rw [HTV.out x HX.out, ← HBX.out, ← HBY.out]; rfl]
  have aF0 := HXF.out.c0
  have aF1 := HXF.out.c1
  have aFl := HXF.out.lt
  have aG0 := HXG.out.c0
  have aG1 := HXG.out.c1
  have aGl := HXG.out.lt
  have aU0 := HXU.out.c0
  have aU1 := HXU.out.c1
  have aUl := HXU.out.lt
  have aV0 := HXV.out.c0
  have aV1 := HXV.out.c1
  have aVl := HXV.out.lt
  go_wp2_with fail
  refine (bothG fa fz fc ua uz uc w13 m1 m7 HOF.out HOU.out HRF.out HRU.out).mono ?_
  rintro e w14 ⟨⟨aa, az, ac, rfl, hok, ht, hr⟩, hb⟩
  clear aF0 aF1 aFl aG0 aG1 aGl aU0 aU1 aUl aV0 aV1 aVl
  replace R0 := Lib.hid (R0.out.step hb)
  replace R1 := Lib.hid (R1.out.step hb)
  replace HRF := Lib.hid (HRF.out.step hb)
  replace HXF := Lib.hid (HXF.out.step hb)
  replace HRG := Lib.hid (HRG.out.step hb)
  replace HXG := Lib.hid (HXG.out.step hb)
  replace HI := Lib.hid (HI.out.step hb)
  replace HRU := Lib.hid (HRU.out.step hb)
  replace HXU := Lib.hid (HXU.out.step hb)
  replace HRV := Lib.hid (HRV.out.step hb)
  replace HXV := Lib.hid (HXV.out.step hb)
  replace HBW := Lib.hid (chain HBW.out hb)
  have HOA := Lib.hid hok
  have HTA := Lib.hid ht
  have HRA := Lib.hid hr
  clear hb hok ht hr
  have hba := al_b w14 (.cells #[.int .i64 (m : Nat), .slice aa az.length ac] 26)
  have hx : Boxes (w14.alloc (.cells #[.int .i64 (m : Nat), .slice aa az.length ac] 26)) w14.heap.size 26 #[.int .i64 (m : Nat), .slice aa az.length ac] := World.alloc_heap_new _ _
  have aF0 := HXF.out.c0
  have aF1 := HXF.out.c1
  have aFl := HXF.out.lt
  have aG0 := HXG.out.c0
  have aG1 := HXG.out.c1
  have aGl := HXG.out.lt
  have aU0 := HXU.out.c0
  have aU1 := HXU.out.c1
  have aUl := HXU.out.lt
  have aV0 := HXV.out.c0
  have aV1 := HXV.out.c1
  have aVl := HXV.out.lt
  go_wp2_with fail
  clear aF0 aF1 aFl aG0 aG1 aGl aU0 aU1 aUl aV0 aV1 aVl
  replace R0 := Lib.hid (R0.out.step hba)
  replace R1 := Lib.hid (R1.out.step hba)
  replace HRF := Lib.hid (HRF.out.step hba)
  replace HXF := Lib.hid (HXF.out.step hba)
  replace HRG := Lib.hid (HRG.out.step hba)
  replace HXG := Lib.hid (HXG.out.step hba)
  replace HI := Lib.hid (HI.out.step hba)
  replace HRU := Lib.hid (HRU.out.step hba)
  replace HXU := Lib.hid (HXU.out.step hba)
  replace HRV := Lib.hid (HRV.out.step hba)
  replace HXV := Lib.hid (HXV.out.step hba)
  replace HRA := Lib.hid (HRA.out.step hba)
  replace HBW := Lib.hid (chain HBW.out hba)
  have HXA := Lib.hid hx
  clear hba hx
  generalize w14.alloc (.cells #[.int .i64 (m : Nat), .slice aa az.length ac] 26) = w15 at *
  generalize w14.heap.size = Ao at *
  have aF0 := HXF.out.c0
  have aF1 := HXF.out.c1
  have aFl := HXF.out.lt
  have aG0 := HXG.out.c0
  have aG1 := HXG.out.c1
  have aGl := HXG.out.lt
  have aU0 := HXU.out.c0
  have aU1 := HXU.out.c1
  have aUl := HXU.out.lt
  have aV0 := HXV.out.c0
  have aV1 := HXV.out.c1
  have aVl := HXV.out.lt
  have aA0 := HXA.out.c0
  have aA1 := HXA.out.c1
  have aAl := HXA.out.lt
  refine (eitherG fa fz fc fa fz fc w15 m1 m7 HOF.out HOF.out HRF.out HRF.out).mono ?_
  rintro e w16 ⟨⟨ta, tz, tc, rfl, hok, ht, hr⟩, hb⟩
  clear aF0 aF1 aFl aG0 aG1 aGl aU0 aU1 aUl aV0 aV1 aVl aA0 aA1 aAl
  replace R0 := Lib.hid (R0.out.step hb)
  replace R1 := Lib.hid (R1.out.step hb)
  replace HRF := Lib.hid (HRF.out.step hb)
  replace HXF := Lib.hid (HXF.out.step hb)
  replace HRG := Lib.hid (HRG.out.step hb)
  replace HXG := Lib.hid (HXG.out.step hb)
  replace HI := Lib.hid (HI.out.step hb)
  replace HRU := Lib.hid (HRU.out.step hb)
  replace HXU := Lib.hid (HXU.out.step hb)
  replace HRV := Lib.hid (HRV.out.step hb)
  replace HXV := Lib.hid (HXV.out.step hb)
  replace HRA := Lib.hid (HRA.out.step hb)
  replace HXA := Lib.hid (HXA.out.step hb)
  replace HBW := Lib.hid (chain HBW.out hb)
  have HOT := Lib.hid hok
  have HTT := Lib.hid ht
  have HRT := Lib.hid hr
  clear hb hok ht hr
  have HE1 := Lib.hid (show az = fz from fam_ext m7 HOA.out HOF.out fun y hy => by
    rw [HTA.out y hy]
    unfold pairB
    rw [HTU.out y hy]
    unfold pairB
    cases tblAt fz fz.length y <;> rfl)
  have HE2 := Lib.hid (show tz = fz from fam_ext m7 HOT.out HOF.out fun y hy => by
    rw [HTT.out y hy]
    unfold pairB
    cases tblAt fz fz.length y <;> rfl)
  clear HBX HBY
  cases bx <;> cases by1
  all_goals (
    have hba := al_b w16 (.cells #[.int .i64 (m : Nat), .slice ta tz.length tc] 26)
    have hx : Boxes (w16.alloc (.cells #[.int .i64 (m : Nat), .slice ta tz.length tc] 26)) w16.heap.size 26 #[.int .i64 (m : Nat), .slice ta tz.length tc] := World.alloc_heap_new _ _
    have aF0 := HXF.out.c0
    have aF1 := HXF.out.c1
    have aFl := HXF.out.lt
    have aG0 := HXG.out.c0
    have aG1 := HXG.out.c1
    have aGl := HXG.out.lt
    have aU0 := HXU.out.c0
    have aU1 := HXU.out.c1
    have aUl := HXU.out.lt
    have aV0 := HXV.out.c0
    have aV1 := HXV.out.c1
    have aVl := HXV.out.lt
    have aA0 := HXA.out.c0
    have aA1 := HXA.out.c1
    have aAl := HXA.out.lt
    go_wp2_with fail
    clear aF0 aF1 aFl aG0 aG1 aGl aU0 aU1 aUl aV0 aV1 aVl aA0 aA1 aAl
    replace R0 := Lib.hid (R0.out.step hba)
    replace R1 := Lib.hid (R1.out.step hba)
    replace HRF := Lib.hid (HRF.out.step hba)
    replace HXF := Lib.hid (HXF.out.step hba)
    replace HRG := Lib.hid (HRG.out.step hba)
    replace HXG := Lib.hid (HXG.out.step hba)
    replace HI := Lib.hid (HI.out.step hba)
    replace HRU := Lib.hid (HRU.out.step hba)
    replace HXU := Lib.hid (HXU.out.step hba)
    replace HRV := Lib.hid (HRV.out.step hba)
    replace HXV := Lib.hid (HXV.out.step hba)
    replace HRA := Lib.hid (HRA.out.step hba)
    replace HXA := Lib.hid (HXA.out.step hba)
    replace HRT := Lib.hid (HRT.out.step hba)
    replace HBW := Lib.hid (chain HBW.out hba)
    have HXT := Lib.hid hx
    clear hba hx
    generalize w16.alloc (.cells #[.int .i64 (m : Nat), .slice ta tz.length tc] 26) = w17 at *
    generalize w16.heap.size = To at *
    have aF0 := HXF.out.c0
    have aF1 := HXF.out.c1
    have aFl := HXF.out.lt
    have aG0 := HXG.out.c0
    have aG1 := HXG.out.c1
    have aGl := HXG.out.lt
    have aU0 := HXU.out.c0
    have aU1 := HXU.out.c1
    have aUl := HXU.out.lt
    have aV0 := HXV.out.c0
    have aV1 := HXV.out.c1
    have aVl := HXV.out.lt
    have aA0 := HXA.out.c0
    have aA1 := HXA.out.c1
    have aAl := HXA.out.lt
    have aT0 := HXT.out.c0
    have aT1 := HXT.out.c1
    have aTl := HXT.out.lt
    refine (sameG aa fa az fz ac fc w17 m7 HOA.out HOF.out HRA.out HRF.out HE1.out).mono ?_
    rintro e w18 ⟨rfl, hb⟩
    clear aF0 aF1 aFl aG0 aG1 aGl aU0 aU1 aUl aV0 aV1 aVl aA0 aA1 aAl aT0 aT1 aTl
    replace R0 := Lib.hid (R0.out.step hb)
    replace R1 := Lib.hid (R1.out.step hb)
    replace HRF := Lib.hid (HRF.out.step hb)
    replace HXF := Lib.hid (HXF.out.step hb)
    replace HRG := Lib.hid (HRG.out.step hb)
    replace HXG := Lib.hid (HXG.out.step hb)
    replace HI := Lib.hid (HI.out.step hb)
    replace HRU := Lib.hid (HRU.out.step hb)
    replace HXU := Lib.hid (HXU.out.step hb)
    replace HRV := Lib.hid (HRV.out.step hb)
    replace HXV := Lib.hid (HXV.out.step hb)
    replace HRA := Lib.hid (HRA.out.step hb)
    replace HXA := Lib.hid (HXA.out.step hb)
    replace HRT := Lib.hid (HRT.out.step hb)
    replace HXT := Lib.hid (HXT.out.step hb)
    replace HBW := Lib.hid (chain HBW.out hb)
    clear hb
    have aF0 := HXF.out.c0
    have aF1 := HXF.out.c1
    have aFl := HXF.out.lt
    have aG0 := HXG.out.c0
    have aG1 := HXG.out.c1
    have aGl := HXG.out.lt
    have aU0 := HXU.out.c0
    have aU1 := HXU.out.c1
    have aUl := HXU.out.lt
    have aV0 := HXV.out.c0
    have aV1 := HXV.out.c1
    have aVl := HXV.out.lt
    have aA0 := HXA.out.c0
    have aA1 := HXA.out.c1
    have aAl := HXA.out.lt
    have aT0 := HXT.out.c0
    have aT1 := HXT.out.c1
    have aTl := HXT.out.lt
    go_wp2_with fail
    refine (sameG ta fa tz fz tc fc w18 m7 HOT.out HOF.out HRT.out HRF.out HE2.out).mono ?_
    rintro e w19 ⟨rfl, hb⟩
    clear aF0 aF1 aFl aG0 aG1 aGl aU0 aU1 aUl aV0 aV1 aVl aA0 aA1 aAl aT0 aT1 aTl
    replace R0 := Lib.hid (R0.out.step hb)
    replace R1 := Lib.hid (R1.out.step hb)
    replace HRF := Lib.hid (HRF.out.step hb)
    replace HXF := Lib.hid (HXF.out.step hb)
    replace HRG := Lib.hid (HRG.out.step hb)
    replace HXG := Lib.hid (HXG.out.step hb)
    replace HI := Lib.hid (HI.out.step hb)
    replace HRU := Lib.hid (HRU.out.step hb)
    replace HXU := Lib.hid (HXU.out.step hb)
    replace HRV := Lib.hid (HRV.out.step hb)
    replace HXV := Lib.hid (HXV.out.step hb)
    replace HRA := Lib.hid (HRA.out.step hb)
    replace HXA := Lib.hid (HXA.out.step hb)
    replace HRT := Lib.hid (HRT.out.step hb)
    replace HXT := Lib.hid (HXT.out.step hb)
    replace HBW := Lib.hid (chain HBW.out hb)
    clear hb
    have aF0 := HXF.out.c0
    have aF1 := HXF.out.c1
    have aFl := HXF.out.lt
    have aG0 := HXG.out.c0
    have aG1 := HXG.out.c1
    have aGl := HXG.out.lt
    have aU0 := HXU.out.c0
    have aU1 := HXU.out.c1
    have aUl := HXU.out.lt
    have aV0 := HXV.out.c0
    have aV1 := HXV.out.c1
    have aVl := HXV.out.lt
    have aA0 := HXA.out.c0
    have aA1 := HXA.out.c1
    have aAl := HXA.out.lt
    have aT0 := HXT.out.c0
    have aT1 := HXT.out.c1
    have aTl := HXT.out.lt
    go_wp2_with fail
    go_ret
    exact ⟨rfl, HBW.out⟩)

end Latt
end Go.Proofs.YteifllengcacbaaDoor

namespace Go.Proofs.YteifllengcacbaaDoor
open Go.ChangeShapes Go.WideShapes Go.ChangeAt Go.RowKit Go.Deep
set_option linter.unusedVariables false
namespace Latt


theorem door_met (os : Os) (args : Array Value) : laidMetH Tryd.prog Rows.fnLatticeRow.laid ((World.doorLaid Tryd.prog 62 os).forCall (fun _ _ => 0) ⟨#[], args, []⟩).memory :=
  laidMetH_of_parts3 (fuel := 8) (laidMet_of_run' 8 (by kernel_rfl) (by kernel_rfl)) (by kernel_rfl) (by kernel_rfl)

set_option maxRecDepth 100000 in
set_option maxHeartbeats 100000000 in
theorem lifted (os : Os) (started : os.Started) (H : Type) (enc : TypeId × Value → H) :
    ReturnsInHanded {} Tryd.checked os 5 .any (fun w args => (Rows.fnLatticeSpec.pre enc Tryd.prog Tryd.f5 [] false w args ∧ laidMetH Tryd.prog Rows.fnLatticeRow.laid w) ∧ sizedMet enc Tryd.prog Tryd.f5 (OpenSpec.ofChange Rows.fnLatticeSpec) false w args)
      (Rows.fnLatticeSpec.post enc Tryd.prog Tryd.f5 false true false false) := by
  refine returnsInHanded_of_change_and (C := Tryd.checked) (X := fun w _ => laidMetH Tryd.prog Rows.fnLatticeRow.laid w) (fun _ _ _ hh h => h.of_heap hh) CardP.own started (by kernel_rfl) Tryd.func5
    (ChangeSpec.witness_shaped (enc := enc) (C := Tryd.checked) (os := os) (X := fun w _ => laidMetH Tryd.prog Rows.fnLatticeRow.laid w) false (World.doorLaid Tryd.prog 62 os) #[.slice none 0 0, .slice none 0 0] 8 rfl (World.shaped_of_RefB (by kernel_rfl) (by kernel_rfl)) (by kernel_rfl) (by kernel_rfl) (by kernel_rfl) (door_met os _)) ?_
  intro W base args ds gs before hval0 hW _ _ hL _
  have hval : ∀ (j : Nat) t v, Tryd.f5.params[j]? = some t → args[j]? = some v → Value.okWide Tryd.prog W .any base t v := hval0
  have hW' := hW
  obtain ⟨p, q, hA0, hV, rfl, hfz, hnd⟩ := hW
  have hA : DataW.TrodAll enc Tryd.prog W 0 (fun _ => true) true Tryd.f5.params.toList args.toList ds p := hA0
  rw [Tryd.params5] at hA hval
  obtain ⟨v0, vs0, d0, ds0, p0, q0, hargs, rfl, rfl, h0, r0⟩ := trodAll_cons hA
  obtain ⟨v1, vs1, d1, ds1, p1, q1, rfl, rfl, rfl, h1, r1⟩ := trodAll_cons r0
  obtain ⟨rfl, rfl, rfl⟩ := trodAll_nil r1
  obtain rfl : args = #[v0, v1] := by cases args; simp_all
  obtain ⟨rfl, rfl⟩ := trodVars_none hV
  have k0 := h0
  have lt0 : ∀ x ∈ p0, x.block < W.heap.size := by obtain ⟨m, hm⟩ := k0; exact DataW.trod_lt m _ _ _ hm
  obtain ⟨a0, len0, c0, rfl⟩ := okWide_slice Tryd.underlying22 (hval 0 22 v0 rfl rfl)
  obtain ⟨fuel0, hf0⟩ := h0
  obtain ⟨z0, rfl, rr0, ll0⟩ := open_bytes1 (by simpa [Value.cells] using hf0)
  have k1 := h1
  have lt1 : ∀ x ∈ p1, x.block < W.heap.size := by obtain ⟨m, hm⟩ := k1; exact DataW.trod_lt m _ _ _ hm
  obtain ⟨a1, len1, c1, rfl⟩ := okWide_slice Tryd.underlying22 (hval 1 22 v1 rfl rfl)
  obtain ⟨fuel1, hf1⟩ := h1
  obtain ⟨z1, rfl, rr1, ll1⟩ := open_bytes1 (by simpa [Value.cells] using hf1)
  clear hA0 hval0
  refine (law a0 z0 c0 a1 z1 c1 W rr0 ll0 rr1 ll1).mono fun e W' ⟨he, bel⟩ => ?_
  subst he
  exact ⟨_, rfl, _, _, _, [], _, [], hW', trodAll_mk1 (shut_bool Tryd.underlying4 _), (trodAll_cons_mk (Below.trod CardP.laidOut (by kernel_rfl) (of_decide_eq_true (by kernel_rfl)) k0 bel lt0) (trodAll_cons_mk (Below.trod CardP.laidOut (by kernel_rfl) (of_decide_eq_true (by kernel_rfl)) k1 bel lt1) trodAll_mk0)), rfl, bel.frame _, fun h => by cases h⟩


end Latt
end Go.Proofs.YteifllengcacbaaDoor

namespace Go.Proofs.YteifllengcacbaaDoor
open Go.ChangeShapes Go.WideShapes Go.ChangeAt Go.RowKit Go.Deep
set_option linter.unusedVariables false
namespace Latt

theorem over : Rows.fnLatticeRow.holds Tryd.pinned (OpenSpec.ofChange Rows.fnLatticeSpec) :=
  OpenClaim.holds_of_wide 5 Tryd.f5 rfl rfl rfl rfl rfl rfl rfl ⟨rfl, rfl, rfl, rfl, rfl⟩ rfl rfl rfl rfl rfl (by kernel_rfl) Tryd.func5 closed
    (of_decide_eq_true (by kernel_rfl)) (by unfold Func.isWrapper; first | (rw [if_pos (by decide +kernel)]; kernel_rfl) | (rw [if_neg (by decide +kernel)]; exact ⟨rfl, rfl⟩))
    (fun os started H enc _ => lifted os started H enc)

theorem said : Rows.FnLatticeSaid := over

end Latt
end Go.Proofs.YteifllengcacbaaDoor

namespace Go.Proofs.YteifllengcacbaaDoor
open Go.ChangeShapes Go.WideShapes Go.ChangeAt Go.RowKit Go.Deep
set_option linter.unusedVariables false
namespace Latt

theorem plain (f : FuncId) (fn : Func) (hf : Tryd.pinned.checked.prog.funcNamed "loop.example/g01117/laws.FnLattice" = some f) (hfn : Tryd.pinned.checked.prog.funcs[f]? = some fn) :
    false = Tryd.pinned.checked.prog.looks [] ∧ ∀ (j : Nat) t, fn.params[j]? = some t → Tryd.pinned.checked.prog.wantsStandIn t = false := by
  obtain rfl : f = 5 := Option.some.inj (c_named.symm.trans hf) |>.symm
  obtain rfl : fn = Tryd.f5 := (Option.some.inj (Tryd.func5.symm.trans hfn)).symm
  refine ⟨CardP.looks, fun j t ht => ?_⟩
  rw [Tryd.params5] at ht
  have hm : t ∈ [22, 22] := by simpa using Array.mem_of_getElem? ht
  have hall := c_stand
  exact (show Tryd.prog.wantsStandIn t = false by simpa using List.all_eq_true.1 hall t hm)

theorem card : Rows.FnLatticeCardSaid :=
  Claim7.holds_tied_plain_at .later [] _ _ _ _ said (fun _ h => by cases h) c_wf (fun _ h => by cases h) fnLattice_row_tie rfl ⟨rfl, rfl⟩ c_main rfl plain c_goes

end Latt
end Go.Proofs.YteifllengcacbaaDoor

/- secretElements of the program; OpeningElements and SchemeOpens: both contracts. -/
import Derived.Test.YtnebkhelobpkpaaGwi
import Derived.Test.YtnebkhelobpkpaaLpa
import Derived.Test.YtnebkhelobpkpaaSf
import Derived.Deep.RegionHeld3
namespace Go.Proofs.Ytnebkhelobpkpaa
open Go.RowKit Go.Deep Go.Joins
set_option linter.unusedVariables false

set_option maxRecDepth 100000 in
set_option maxHeartbeats 4000000 in
theorem secretElements_any (p : Int) (n : Nat) (a : Option Addr) (m ca : Nat) (z : List (List Int)) (w : World) (hm : m = z.length) (hg : GoodM p n z) (h0 : 0 < n) (hn : n ≤ 999) (hz : z.length ≤ 999) (hr : GridR w a p z) :
    Calls Try.prog 65 #[.agg #[.slice a m ca, .int .i64 p, .int .i64 ((n : Nat) : Int)]] w (GivesIntsCode w (solL p z.length (turned z n) (fstL n)) (solCode p z.length (turned z n) (fstL n))) := by
  subst hm
  have HG := Lib.hid hg
  have hb1 := al_b w (.cells #[.slice a z.length ca, .int .i64 p, .int .i64 ((n : Nat) : Int)] 102)
  have HX := Lib.hid (show Boxes (w.alloc (.cells #[.slice a z.length ca, .int .i64 p, .int .i64 ((n : Nat) : Int)] 102)) w.heap.size 102 #[.slice a z.length ca, .int .i64 p, .int .i64 ((n : Nat) : Int)] from World.alloc_heap_new w _)
  have HR := Lib.hid (hr.below hb1 (Nat.le_refl _))
  have HB1 := Lib.hid hb1
  have HROW := Lib.hid (fun r (hr : r < z.length) => (hg.rows r hr).1)
  have HV := Lib.hid (sn_yes (n := z.length) (show ValOk p (turned z n) (fstL n) from ⟨by unfold turned; rw [tab_len, fstL_len], fstL_elems hg.prm.1 n⟩))
  clear hr hb1 hg
  go_enter Try.func65, Try.ntmps65
  go_wp2_with fail
  generalize w.alloc (.cells #[.slice a z.length ca, .int .i64 p, .int .i64 ((n : Nat) : Int)] 102) = w1 at *
  have hs1 := HB1.out.size
  have MK := Lib.hid (show ∀ w' : World, Below w1.heap.size w1 w' → w'.cell? ⟨w.heap.size, 0, none⟩ = some (.slice a z.length ca) ∧ w'.cell? ⟨w.heap.size, 1, none⟩ = some (.int .i64 p) ∧ w'.cell? ⟨w.heap.size, 2, none⟩ = some (.int .i64 ((n : Nat) : Int)) from fun w' hw => ⟨(HX.out.step hw).m0, (HX.out.step hw).m1, (HX.out.step hw).m2⟩)
  go_region_held3 (fun w' => w'.cell? ⟨w.heap.size, 0, none⟩ = some (.slice a z.length ca) ∧ w'.cell? ⟨w.heap.size, 1, none⟩ = some (.int .i64 p) ∧ w'.cell? ⟨w.heap.size, 2, none⟩ = some (.int .i64 ((n : Nat) : Int))) (first | exact MK.out _ (drew_step _) | exact MK.out _ HB3.out | exact MK.out _ HB4.out | exact MK.out _ HB5.out | fail) (first
    | (go_at_call 85; refine (transposed_any p n a ca z _ (HR.out.step (drew_step _)) (by omega) (by omega) HROW.out).mono ?_; rintro e w3 ⟨⟨v3, us3, rfl, ho3⟩, hb3⟩; obtain ⟨ta, tc, rfl⟩ := ho3.form; have HG3 := Lib.hid (grid_of ho3); have HB3 := Lib.hid (show Below w1.heap.size w1 w3 from (drew_step w1).trans hb3); clear ho3 hb3)
    | (go_at_call 77; refine (secretList_any n _ h0 (by omega)).mono ?_; rintro e w4 ⟨⟨v4, rfl, ho4⟩, hb4⟩; obtain ⟨la, lc, rfl⟩ := rowForm ho4; have HL4 := Lib.hid (Ints_of_own ho4); have HG4 := Lib.hid (HG3.out.step hb4); have HB4 := Lib.hid (HB3.out.trans (hb4.mono HB3.out.size)); clear ho4 hb4)
    | (go_at_call 78; refine (solution_any p z.length ta tc (turned z n) la (fstL n) lc _ (turned_good HG.out (by omega)) hz HG4.out HL4.out (by rw [fstL_len]; omega)).mono ?_; rintro e w5 ⟨⟨u, rfl, hu⟩, hb5⟩; have HB5 := Lib.hid (HB4.out.trans (hb5.mono HB4.out.size)); have HU := Lib.hid (hu.mono (show w.heap.size ≤ _ from Nat.le_trans hs1 HB4.out.size)); clear hu hb5))
  all_goals (
    go_wp2_with fail
    go_ret2
    exact ⟨⟨_, by rw [← HV.out.2]; rfl, by rw [← HV.out.1]; exact HU.out⟩, HB1.out.trans (HB5.out.mono hs1)⟩)

/-- What a scheme and a group give: b for a bad scheme, r for a list that is no group of it, else o. -/
noncomputable def oeSel {α : Type} (h f l : Int) (yo : List Int) (z : List (List Int)) (gs : List Int) (b r o : α) : α := if tell (SchOk h yo f l z) = true then (if tell (IsGrp h gs) = true then o else r) else b
theorem oe_bad {α : Type} {h f l : Int} {yo : List Int} {z : List (List Int)} {gs : List Int} (k : ¬ SchOk h yo f l z) (b r o : α) : oeSel h f l yo z gs b r o = b := by rw [oeSel, tell_false k]; rfl
theorem oe_rng {α : Type} {h f l : Int} {yo : List Int} {z : List (List Int)} {gs : List Int} (k : SchOk h yo f l z) (q : ¬ IsGrp h gs) (b r o : α) : oeSel h f l yo z gs b r o = r := by rw [oeSel, tell_true k, tell_false q]; rfl
theorem oe_ok {α : Type} {h f l : Int} {yo : List Int} {z : List (List Int)} {gs : List Int} (k : SchOk h yo f l z) (q : IsGrp h gs) (b r o : α) : oeSel h f l yo z gs b r o = o := by rw [oeSel, tell_true k, tell_true q]; rfl
section
variable (h f l : Int) (yo : List Int) (z : List (List Int)) (gs : List Int)
noncomputable def opL : List Int := solL f (partZ yo z gs).length (turned (partZ yo z gs) l.toNat) (fstL l.toNat)
noncomputable def opCode : Int := solCode f (partZ yo z gs).length (turned (partZ yo z gs) l.toNat) (fstL l.toNat)
noncomputable def oeL : List Int := oeSel h f l yo z gs [] [] (opL f l yo z gs)
noncomputable def oeCode : Int := oeSel h f l yo z gs 1 2 (opCode f l yo z gs)
noncomputable def soB : Bool := oeCode h f l yo z gs == 0
noncomputable def soCode : Int := if oeCode h f l yo z gs = 6 then 0 else oeCode h f l yo z gs
theorem oe_grp (k : ¬ (SchOk h yo f l z ∧ IsGrp h gs)) : (grpCode h f l yo z gs = 1 ∨ grpCode h f l yo z gs = 2) ∧ oeL h f l yo z gs = [] ∧ oeCode h f l yo z gs = grpCode h f l yo z gs := by
  by_cases h1 : SchOk h yo f l z
  · have h2 : ¬ IsGrp h gs := fun q => k ⟨h1, q⟩
    unfold oeL oeCode
    rw [oe_rng h1 h2, oe_rng h1 h2, (grp_no h1 h2).1]
    exact ⟨.inr rfl, rfl, rfl⟩
  · unfold oeL oeCode
    rw [oe_bad h1, oe_bad h1, (grp_bad (gs := gs) h1).1]
    exact ⟨.inl rfl, rfl, rfl⟩
theorem oeL_len : (oeL h f l yo z gs).length ≤ 1048576 := by
  by_cases h1 : SchOk h yo f l z
  · by_cases h2 : IsGrp h gs
    · unfold oeL opL
      rw [oe_ok h1 h2]
      have := partI_len yo gs
      exact solL_len (by rw [partZ_len]; have := h1.2.2.2.1; have := h1.2.1.2.2.1; omega)
    · unfold oeL; rw [oe_rng h1 h2]; simp
  · unfold oeL; rw [oe_bad h1]; simp
end

end Go.Proofs.Ytnebkhelobpkpaa

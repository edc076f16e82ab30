/- AddCurves, both. -/
import Derived.Test.YtgndekojodpmkaaDoorPlu
import Derived.Test.YtgndekojodpmkaaDoorScM
namespace Go.Proofs.YtgndekojodpmkaaDoor
open Go.RowKit Go.Deep
set_option linter.unusedVariables false

theorem rows2_two (w : World) (a b : Option Addr) (xs ys : List Int) (c d : Nat) (h : Ints w a xs) (k : Ints w b ys) : Rows2 (w.alloc (.cells #[.slice a xs.length c, .slice b ys.length d] 22)) (some ⟨w.heap.size, 0, none⟩) [xs, ys] := by
  refine .inr ⟨_, 0, rfl, fun i hi => ?_⟩
  match i, hi with
  | 0, _ => exact ⟨a, c, by simp [nthL], h.step ((Below.refl _ _).alloc (Nat.le_refl _) _)⟩
  | 1, _ => exact ⟨b, d, by simp [nthL], k.step ((Below.refl _ _).alloc (Nat.le_refl _) _)⟩
theorem errs_one (w : World) (x : Option Addr) (v : Value) (hv : v = errV x) : ∀ i, i < 1 → (w.alloc (.cells #[v] 65)).cell? ⟨w.heap.size, i, none⟩ = some (errV ([x].getD i none)) := by
  intro i hi
  obtain rfl : i = 0 := by omega
  subst hv
  simp
theorem allOk_two {p : Int} {xs ys : List Int} : AllOk p [xs, ys] ↔ CurveOk p xs ∧ CurveOk p ys := by
  constructor
  · intro h; exact ⟨h 0 (by simp), h 1 (by simp)⟩
  · intro h i hi
    match i, hi with
    | 0, _ => exact h.1
    | 1, _ => exact h.2
noncomputable def acCode (p : Int) (xs ys : List Int) : Int := if tell (CurveOk p xs ∧ CurveOk p ys) = true then 0 else 1
noncomputable def acZs (p : Int) (xs ys : List Int) : List Int := if tell (CurveOk p xs ∧ CurveOk p ys) = true then cut (addTo p 1 xs ys ys.length) else []
theorem acZs_len (p : Int) (xs ys : List Int) : (acZs p xs ys).length ≤ 1048576 := by
  unfold acZs
  split
  · rename_i h
    have h := of_tell h
    have := h.1.2.1
    have := h.2.2.1
    rw [cut_len]
    have := cutTo_le (addTo p 1 xs ys ys.length) (addTo p 1 xs ys ys.length).length
    have := addTo_len p 1 xs ys ys.length
    omega
  · simp
theorem ac_yes {p : Int} {xs ys : List Int} (h : CurveOk p xs ∧ CurveOk p ys) : acCode p xs ys = 0 ∧ acZs p xs ys = cut (addTo p 1 xs ys ys.length) := by
  unfold acCode acZs; rw [tell_true h]; exact ⟨rfl, rfl⟩
theorem ac_no {p : Int} {xs ys : List Int} (h : ¬ (CurveOk p xs ∧ CurveOk p ys)) : acCode p xs ys = 1 ∧ acZs p xs ys = [] := by
  unfold acCode acZs; rw [tell_false h]; exact ⟨rfl, rfl⟩

set_option maxRecDepth 100000 in
set_option maxHeartbeats 1000000 in
theorem implAc_any (p : Int) (a b : Option Addr) (xs ys : List Int) (c d : Nat) (ai az : Addr) (w : World) (hg : Glob2 w ai az) (h : Ints w a xs) (hl : xs.length ≤ 1048576) (k : Ints w b ys) (kl : ys.length ≤ 1048576) :
    Calls Tryd.prog 24 #[.int .i64 p, .slice a xs.length c, .slice b ys.length d] w (GivesIntsCode w (acZs p xs ys) (acCode p xs ys)) := by
  have hb1 := (Below.refl w.heap.size w).alloc (Nat.le_refl _) (.cells #[.slice a xs.length c, .slice b ys.length d] 22)
  have HR1 := Lib.hid (rows2_two w a b xs ys c d h k)
  have HG1 := Lib.hid (hg.step hb1)
  have HI1 := Lib.hid (h.step hb1)
  have HK1 := Lib.hid (k.step hb1)
  have HB1 := Lib.hid hb1
  clear hg h k hb1
  have hll : ∀ r, r < [xs, ys].length → (nthL [xs, ys] r).length ≤ 9223372036854775807 := by
    intro r hr
    match r, hr with
    | 0, _ => show xs.length ≤ _; omega
    | 1, _ => show ys.length ≤ _; omega
  have HLL := Lib.hid hll
  clear hll
  by_cases hok : CurveOk p xs ∧ CurveOk p ys
  · obtain ⟨e1, e2⟩ := ac_yes hok
    rw [e1, e2]
    have HOK := Lib.hid hok
    clear hok e1 e2
    go_enter Tryd.func24, Tryd.ntmps24
    go_wp2_with fail
    refine (checkCurves_any p (some ⟨w.heap.size, 0, none⟩) [xs, ys] 2 ai _ HR1.out (by simp) HLL.out HG1.out.i).mono ?_
    rintro e w1 ⟨rfl, rfl⟩
    rw [curE_yes ai (allOk_two.2 HOK.out)]
    generalize w.alloc (.cells #[.slice a xs.length c, .slice b ys.length d] 22) = w1 at *
    clear HR1
    simp only [errV]
    have hb4 := (Below.refl w1.heap.size w1).alloc (Nat.le_refl _) (.cells #[.nilIface] 65)
    have HV := Lib.hid (errs_one w1 none .nilIface rfl)
    have HI4 := Lib.hid (HI1.out.step hb4)
    have HK4 := Lib.hid (HK1.out.step hb4)
    have HB4 := Lib.hid (HB1.out.trans (hb4.mono HB1.out.size))
    clear hb4 HI1 HK1 HB1
    go_wp2_with fail
    refine (codeOf_any w1.heap.size [none] 1 1 0 _ rfl (by omega) HV.out (.none .nil)).mono ?_
    rintro e w5 ⟨rfl, hb5⟩
    have HI5 := Lib.hid (HI4.out.step hb5)
    have HK5 := Lib.hid (HK4.out.step hb5)
    have HB5 := Lib.hid (HB4.out.trans (hb5.mono HB4.out.size))
    clear hb5 HV HI4 HK4 HB4
    go_wp2_with fail
    refine (curve_any p a xs c _ HI5.out hl).mono ?_
    rintro e w6 ⟨⟨v6, rfl, ho6⟩, hb6⟩
    obtain ⟨a6, c6, rfl, hN6⟩ := ho6.nums
    have HB6 := Lib.hid (HB5.out.trans (hb6.mono HB5.out.size))
    have HK6 := Lib.hid (HK5.out.step hb6)
    have HN6 := Lib.hid hN6
    clear ho6 hb6 hN6 HI5 HB5 HK5
    go_wp2_with fail
    refine (curve_any p b ys d _ HK6.out kl).mono ?_
    rintro e w7 ⟨⟨v7, rfl, ho7⟩, hb7⟩
    obtain ⟨a7, c7, rfl, hN7⟩ := ho7.nums
    have HB7 := Lib.hid (HB6.out.trans (hb7.mono HB6.out.size))
    have HN67 := Lib.hid (HN6.out.step hb7)
    have HN7 := Lib.hid hN7
    clear ho7 hb7 hN7 HN6 HB6 HK6
    go_wp2_with fail
    refine (cplus_any p a6 a7 xs ys c6 c7 _ HN67.out HN7.out (by have := HOK.out.1.2.1; omega) (by have := HOK.out.2.2.1; omega) HOK.out.1.1.1 HOK.out.1.1.2.1 HOK.out.1.2.2.1 HOK.out.2.2.2.1).mono ?_
    rintro e w8 ⟨⟨a8, c8, rfl, hN8⟩, hb8⟩
    have HB8 := Lib.hid (HB7.out.trans (hb8.mono HB7.out.size))
    have HN8 := Lib.hid hN8
    have hly : (cut (addTo p 1 xs ys ys.length)).length ≤ 1048576 := by
      have := acZs_len p xs ys
      rw [(ac_yes HOK.out).2] at this
      exact this
    clear hb8 HB7 hN8 HN67 HN7
    generalize cut (addTo p 1 xs ys ys.length) = zs at *
    go_wp2_with fail
    refine (list_any p a8 zs c8 _ HN8.out hly).mono ?_
    rintro e w9 ⟨⟨v9, rfl, ho9⟩, hb9⟩
    have HO9 := Lib.hid ho9
    have HB9 := Lib.hid (HB8.out.trans (hb9.mono HB8.out.size))
    have hs8 := HB8.out.size
    clear ho9 hb9
    go_wp2_with fail
    refine bodyPost_ret (v := .tuple #[v9, .int .i64 0]) (by simp [results, Tryd.results24, go_sem]) rfl ?_
    exact GivesInts.code HO9.out hs8 HB9.out 0
  · obtain ⟨e1, e2⟩ := ac_no hok
    rw [e1, e2]
    have HOK := Lib.hid hok
    clear hok e1 e2
    go_enter Tryd.func24, Tryd.ntmps24
    go_wp2_with fail
    refine (checkCurves_any p (some ⟨w.heap.size, 0, none⟩) [xs, ys] 2 ai _ HR1.out (by simp) HLL.out HG1.out.i).mono ?_
    rintro e w1 ⟨rfl, rfl⟩
    rw [curE_no ai (fun q => HOK.out (allOk_two.1 q))]
    generalize w.alloc (.cells #[.slice a xs.length c, .slice b ys.length d] 22) = w1 at *
    clear HR1
    simp only [errV]
    have hb4 := (Below.refl w1.heap.size w1).alloc (Nat.le_refl _) (.cells #[errAt ai] 65)
    have HV := Lib.hid (errs_one w1 (some ai) (errAt ai) rfl)
    have HB4 := Lib.hid (HB1.out.trans (hb4.mono HB1.out.size))
    have HG4 := Lib.hid (HG1.out.step hb4)
    clear hb4 HI1 HK1 HB1 HG1
    go_wp2_with fail
    refine (codeOf_any w1.heap.size [some ai] 1 1 1 _ rfl (by omega) HV.out (.invalid HG4.out.h HG4.out.i)).mono ?_
    rintro e w5 ⟨rfl, hb5⟩
    have HB5 := Lib.hid (HB4.out.trans (hb5.mono HB4.out.size))
    clear hb5 HV HB4
    go_wp2_with fail
    refine bodyPost_ret (v := .tuple #[.slice none 0 0, .int .i64 1]) (by simp [results, Tryd.results24, go_sem]) rfl ?_
    exact GivesInts.code (OwnI.nil _ _) (Nat.le_refl _) HB5.out 1

set_option maxRecDepth 100000 in
set_option maxHeartbeats 1000000 in
theorem specAc_any (p : Int) (a b : Option Addr) (xs ys : List Int) (c d : Nat) (w : World) (h : Ints w a xs) (hl : xs.length ≤ 1048576) (k : Ints w b ys) (kl : ys.length ≤ 1048576) :
    Calls Tryd.prog 23 #[.int .i64 p, .slice a xs.length c, .slice b ys.length d] w (GivesIntsCode w (acZs p xs ys) (acCode p xs ys)) := by
  have HI := Lib.hid h
  have HK := Lib.hid k
  have HOM := Lib.hid (own_made w)
  have HBM := Lib.hid ((Below.refl w.heap.size w).alloc (Nat.le_refl _) (.cells #[] 2))
  clear h k
  by_cases h1 : CurveOk p xs
  case neg =>
    have HT := Lib.hid (tell_false h1)
    obtain ⟨e1, e2⟩ := ac_no (ys := ys) (fun q => h1 q.1)
    rw [e1, e2]
    clear h1 e1 e2
    go_enter Tryd.func23, Tryd.ntmps23
    go_wp2_with fail
    refine (specVc_any p a xs c _ HI.out (by omega)).mono ?_
    rintro e w1 ⟨rfl, rfl⟩
    rw [HT.out]
    go_wp2_with fail
    refine bodyPost_ret (v := .tuple #[.slice (some ⟨w.heap.size, 0, none⟩) 0 0, .int .i64 1]) (by simp [results, Tryd.results23, go_sem]) rfl ?_
    exact GivesInts.code HOM.out (Nat.le_refl _) HBM.out 1
  have HT := Lib.hid (tell_true h1)
  by_cases h2 : CurveOk p ys
  case neg =>
    have HT2 := Lib.hid (tell_false h2)
    obtain ⟨e1, e2⟩ := ac_no (xs := xs) (fun q => h2 q.2)
    rw [e1, e2]
    clear h1 h2 e1 e2
    go_enter Tryd.func23, Tryd.ntmps23
    go_wp2_with fail
    refine (specVc_any p a xs c _ HI.out (by omega)).mono ?_
    rintro e w1 ⟨rfl, rfl⟩
    rw [HT.out]
    go_wp2_with fail
    refine (specVc_any p b ys d _ HK.out (by omega)).mono ?_
    rintro e w1 ⟨rfl, rfl⟩
    rw [HT2.out]
    go_wp2_with fail
    refine bodyPost_ret (v := .tuple #[.slice (some ⟨w.heap.size, 0, none⟩) 0 0, .int .i64 1]) (by simp [results, Tryd.results23, go_sem]) rfl ?_
    exact GivesInts.code HOM.out (Nat.le_refl _) HBM.out 1
  have HT2 := Lib.hid (tell_true h2)
  have HP := Lib.hid (And.intro h1 h2)
  obtain ⟨e1, e2⟩ := ac_yes ⟨h1, h2⟩
  rw [e1, e2]
  clear h1 h2 e1 e2
  go_enter Tryd.func23, Tryd.ntmps23
  go_wp2_with fail
  refine (specVc_any p a xs c _ HI.out (by omega)).mono ?_
  rintro e w1 ⟨rfl, rfl⟩
  rw [HT.out]
  go_wp2_with fail
  refine (specVc_any p b ys d _ HK.out (by omega)).mono ?_
  rintro e w1 ⟨rfl, rfl⟩
  rw [HT2.out]
  go_wp2_with fail
  refine (l05Sum_any p 1 a b xs ys c d _ HI.out HK.out (by have := HP.out.1.2.1; omega) (by have := HP.out.2.2.1; omega) HP.out.1.1.1 HP.out.1.1.2.1 ⟨by omega, by have := HP.out.1.1.1; omega⟩ HP.out.1.2.2.1 HP.out.2.2.2.1).mono ?_
  rintro e w2 hG
  obtain ⟨⟨v2, rfl, ho2⟩, hb2⟩ := hG
  have HO2 := Lib.hid ho2
  have HB2 := Lib.hid hb2
  clear ho2 hb2
  go_wp2_with fail
  refine bodyPost_ret (v := .tuple #[v2, .int .i64 0]) (by simp [results, Tryd.results23, go_sem]) rfl ?_
  exact GivesInts.code HO2.out (Nat.le_refl _) HB2.out 0
end Go.Proofs.YtgndekojodpmkaaDoor

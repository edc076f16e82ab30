/- ScaleCurve of the program. -/
import Derived.Test.YtgndekojodpmkaaDoorTrm
import Derived.Test.YtgndekojodpmkaaDoorChk
namespace Go.Proofs.YtgndekojodpmkaaDoor
open Go.RowKit Go.Deep
set_option linter.unusedVariables false

/-- The program's sentinels, as errors.Is and errors.As need them. -/
structure Glob2 (w : World) (ai az : Addr) : Prop where
  h : Handle w
  i : Sent w 0 ai
  s : Sent w 1 az
structure Glob (w : World) (ai ar az : Addr) : Prop where
  two : Glob2 w ai az
  r : Sent w 2 ar
  ri : ar ≠ ai
  rs : ar ≠ az
theorem Glob2.step {w w' : World} {ai az : Addr} (h : Glob2 w ai az) (hb : Below w.heap.size w w') : Glob2 w' ai az := ⟨h.h.step hb, h.i.step hb, h.s.step hb⟩
theorem Glob.step {w w' : World} {ai ar az : Addr} (h : Glob w ai ar az) (hb : Below w.heap.size w w') : Glob w' ai ar az := ⟨h.two.step hb, h.r.step hb, h.ri, h.rs⟩
theorem Glob.invalid {w : World} {ai ar az : Addr} (h : Glob w ai ar az) (vs : List (Option Addr)) : CodeIs w (some ai :: vs) 1 := .invalid h.two.h h.two.i
theorem Glob.range {w : World} {ai ar az : Addr} (h : Glob w ai ar az) (vs : List (Option Addr)) : CodeIs w (some ar :: vs) 2 := .range h.two.h h.two.i h.two.s h.r.blk h.ri h.rs
theorem rows2_one (w : World) (a : Option Addr) (zs : List Int) (c : Nat) (h : Ints w a zs) : Rows2 (w.alloc (.cells #[.slice a zs.length c] 22)) (some ⟨w.heap.size, 0, none⟩) [zs] := by
  refine .inr ⟨_, 0, rfl, fun i hi => ?_⟩
  obtain rfl : i = 0 := by simp at hi; omega
  exact ⟨a, c, by simp [nthL], h.step ((Below.refl _ _).alloc (Nat.le_refl _) _)⟩
theorem ints_one (w : World) (f : Int) : Ints (w.alloc (.cells #[.int .i64 f] 2)) (some ⟨w.heap.size, 0, none⟩) [f] := by
  refine .inr ⟨_, 0, rfl, fun i hi => ?_⟩
  obtain rfl : i = 0 := by simp at hi; omega
  simp [nth]
theorem errs_two (w : World) (x y : Option Addr) : ∀ i, i < 2 → (w.alloc (.cells #[errV x, errV y] 65)).cell? ⟨w.heap.size, i, none⟩ = some (errV ([x, y].getD i none)) := by
  intro i hi
  match i, hi with
  | 0, _ => simp
  | 1, _ => simp
theorem errV_cells (x : Option Addr) : (errV x).cells = #[errV x] := by cases x <;> rfl
theorem allOk_one {p : Int} {zs : List Int} : AllOk p [zs] ↔ CurveOk p zs := by
  constructor
  · intro h; exact h 0 (by simp)
  · intro h i hi
    obtain rfl : i = 0 := by simp at hi; omega
    exact h
theorem elems_one {p f : Int} : Elems p [f] ↔ Elem p f := by
  constructor
  · intro h; exact h 0 (by simp)
  · intro h i hi
    obtain rfl : i = 0 := by simp at hi; omega
    exact h
noncomputable def scCode (p : Int) (zs : List Int) (f : Int) : Int := if tell (CurveOk p zs) = true then (if tell (Elem p f) = true then 0 else 2) else 1
theorem codes_sc {w : World} {ai ar az : Addr} (h : Glob w ai ar az) (p : Int) (zs : List Int) (f : Int) : CodeIs w [curE ai p [zs], resE ai ar p [f]] (scCode p zs f) := by
  unfold scCode
  by_cases h1 : CurveOk p zs
  · rw [tell_true h1, if_pos rfl, curE_yes ai (allOk_one.2 h1)]
    by_cases h2 : Elem p f
    · rw [tell_true h2, if_pos rfl, resE_yes ai ar h1.1 (elems_one.2 h2)]
      exact .none (.none .nil)
    · rw [tell_false h2, if_neg (by simp), resE_out ai ar h1.1 (fun q => h2 (elems_one.1 q))]
      exact .none (h.range _)
  · rw [tell_false h1, if_neg (by simp), curE_no ai (fun q => h1 (allOk_one.1 q))]
    exact h.invalid _
noncomputable def scZs (p : Int) (zs : List Int) (f : Int) : List Int := if scCode p zs f = 0 then cut (zs.map (fun x => f * x % p)) else []

set_option maxRecDepth 100000 in
set_option maxHeartbeats 1000000 in
theorem implSc_any (p f : Int) (a : Option Addr) (zs : List Int) (c : Nat) (ai ar az : Addr) (w : World) (hg : Glob w ai ar az) (h : Ints w a zs) (hl : zs.length ≤ 1048576) :
    Calls Tryd.prog 28 #[.int .i64 p, .slice a zs.length c, .int .i64 f] w (GivesIntsCode w (scZs p zs f) (scCode p zs f)) := by
  have hb1 := (Below.refl w.heap.size w).alloc (Nat.le_refl _) (.cells #[.slice a zs.length c] 22)
  have HR1 := Lib.hid (rows2_one w a zs c h)
  have HG1 := Lib.hid (hg.step hb1)
  have HI1 := Lib.hid (h.step hb1)
  have HB1 := Lib.hid hb1
  have HS1 := Lib.hid (show (w.alloc (.cells #[.slice a zs.length c] 22)).heap.size = w.heap.size + 1 by simp)
  clear hg h hb1
  obtain ⟨r, hr⟩ : ∃ r, scCode p zs f = r := ⟨_, rfl⟩
  obtain ⟨ys, hys⟩ : ∃ ys, scZs p zs f = ys := ⟨_, rfl⟩
  rw [hys, hr]
  have HCD := Lib.hid hr
  by_cases h0 : r = 0
  · subst h0
    have hok : CurveOk p zs ∧ Elem p f := by
      unfold scCode at hr
      by_cases h1 : CurveOk p zs
      · by_cases h2 : Elem p f
        · exact ⟨h1, h2⟩
        · rw [tell_true h1, tell_false h2] at hr; simp at hr
      · rw [tell_false h1] at hr; simp at hr
    have hzz : cut (zs.map (fun x => f * x % p)) = ys := by rw [← hys, scZs, if_pos hr]
    have HOK := Lib.hid hok
    have HZ := Lib.hid hzz
    clear hok hzz hr hys
    go_enter Tryd.func28, Tryd.ntmps28
    go_wp2_with fail
    refine (checkCurves_any p (some ⟨w.heap.size, 0, none⟩) [zs] 1 ai _ HR1.out (by simp) (by intro r hr; obtain rfl : r = 0 := (by simp at hr; omega); show zs.length ≤ _; omega) HG1.out.two.i).mono ?_
    rintro e w1 ⟨rfl, rfl⟩
    generalize w.alloc (.cells #[.slice a zs.length c] 22) = w1 at *
    clear HR1
    go_wp2_with fail
    have hb2 := (Below.refl w1.heap.size w1).alloc (Nat.le_refl _) (.cells #[.int .i64 f] 2)
    refine (checkResidues_any p (some ⟨w1.heap.size, 0, none⟩) [f] 1 ai ar _ (ints_one w1 f) (by simp) (HG1.out.step hb2).two.i (HG1.out.step hb2).r).mono ?_
    rintro e w3 ⟨rfl, hq⟩
    have hb3 := hb2.trans ((quiet_below hq).mono (by simp))
    have HG3 := Lib.hid (HG1.out.step hb3)
    have HI3 := Lib.hid (HI1.out.step hb3)
    have HB3 := Lib.hid (HB1.out.trans (hb3.mono HB1.out.size))
    clear hb2 hb3 hq HG1 HI1 HB1
    have hcd := codes_sc HG3.out p zs f
    rw [curE_yes ai (allOk_one.2 HOK.out.1), resE_yes ai ar HOK.out.1.1 (elems_one.2 HOK.out.2), HCD.out] at hcd
    rw [curE_yes ai (allOk_one.2 HOK.out.1), resE_yes ai ar HOK.out.1.1 (elems_one.2 HOK.out.2)]
    have hb4 := (Below.refl w3.heap.size w3).alloc (Nat.le_refl _) (.cells #[.nilIface, .nilIface] 65)
    have HV := Lib.hid (errs_two w3 none none)
    simp only [errV] at HV ⊢
    have HCI := Lib.hid (hcd.step hb4)
    have HI4 := Lib.hid (HI3.out.step hb4)
    have HB4 := Lib.hid (HB3.out.trans (hb4.mono HB3.out.size))
    have HG4 := Lib.hid (HG3.out.step hb4)
    clear hcd hb4 HG3 HI3 HB3
    go_wp2_with fail
    refine (codeOf_any w3.heap.size [none, none] 2 2 0 _ rfl (by omega) HV.out HCI.out).mono ?_
    rintro e w5 ⟨rfl, hb5⟩
    have HI5 := Lib.hid (HI4.out.step hb5)
    have HB5 := Lib.hid (HB4.out.trans (hb5.mono HB4.out.size))
    clear hb5 HV HCI HI4 HB4 HG4
    go_wp2_with fail
    refine (curve_any p a zs c _ HI5.out hl).mono ?_
    rintro e w6 ⟨⟨v6, rfl, ho6⟩, hb6⟩
    obtain ⟨a6, c6, rfl, hN6⟩ := ho6.nums
    have HB6 := Lib.hid (HB5.out.trans (hb6.mono HB5.out.size))
    have HN6 := Lib.hid hN6
    clear ho6 hb6 hN6 HI5 HB5
    go_wp2_with fail
    refine (number_any p f _).mono ?_
    rintro e w7 ⟨rfl, hb7⟩
    have HB7 := Lib.hid (HB6.out.trans (hb7.mono HB6.out.size))
    have HN7 := Lib.hid (HN6.out.step hb7)
    clear hb7 HN6 HB6
    go_wp2_with fail
    refine (scaled_any p f a6 zs c6 _ HN7.out hl HOK.out.1.1.1 HOK.out.1.1.2.1 HOK.out.2 HOK.out.1.2.2.1).mono ?_
    rintro e w8 ⟨⟨a8, c8, rfl, hN8⟩, hb8⟩
    rw [HZ.out] at hN8
    rw [HZ.out]
    have HB8 := Lib.hid (HB7.out.trans (hb8.mono HB7.out.size))
    have HN8 := Lib.hid hN8
    clear hb8 HB7 hN8
    have hly : ys.length ≤ 1048576 := by rw [← HZ.out, cut_len]; refine Nat.le_trans (cutTo_le _ _) ?_; rw [List.length_map]; exact hl
    go_wp2_with fail
    refine (list_any p a8 ys c8 _ HN8.out hly).mono ?_
    rintro e w9 ⟨⟨v9, rfl, ho9⟩, hb9⟩
    have HO9 := Lib.hid ho9
    have HB9 := Lib.hid (HB8.out.trans (hb9.mono HB8.out.size))
    have hs8 := HB8.out.size
    clear ho9 hb9
    go_wp2_with fail
    refine bodyPost_ret (v := .tuple #[v9, .int .i64 0]) (by simp [results, Tryd.results28, go_sem]) rfl ?_
    exact GivesInts.code HO9.out hs8 HB9.out 0
  · have hzz : ys = [] := by rw [← hys, scZs, if_neg (by rw [hr]; exact h0)]
    subst hzz
    have t0 : (r != 0) = true := by simp [h0]
    clear hr hys h0
    go_enter Tryd.func28, Tryd.ntmps28
    go_wp2_with fail
    refine (checkCurves_any p (some ⟨w.heap.size, 0, none⟩) [zs] 1 ai _ HR1.out (by simp) (by intro r hr; obtain rfl : r = 0 := (by simp at hr; omega); show zs.length ≤ _; omega) HG1.out.two.i).mono ?_
    rintro e w1 ⟨rfl, rfl⟩
    generalize w.alloc (.cells #[.slice a zs.length c] 22) = w1 at *
    clear HR1
    go_wp2_with fail
    have hb2 := (Below.refl w1.heap.size w1).alloc (Nat.le_refl _) (.cells #[.int .i64 f] 2)
    refine (checkResidues_any p (some ⟨w1.heap.size, 0, none⟩) [f] 1 ai ar _ (ints_one w1 f) (by simp) (HG1.out.step hb2).two.i (HG1.out.step hb2).r).mono ?_
    rintro e w3 ⟨rfl, hq⟩
    have hb3 := hb2.trans ((quiet_below hq).mono (by simp))
    have HG3 := Lib.hid (HG1.out.step hb3)
    have HB3 := Lib.hid (HB1.out.trans (hb3.mono HB1.out.size))
    clear hb2 hb3 hq HG1 HI1 HB1
    obtain ⟨x1, hx1⟩ : ∃ x1, curE ai p [zs] = x1 := ⟨_, rfl⟩
    obtain ⟨x2, hx2⟩ : ∃ x2, resE ai ar p [f] = x2 := ⟨_, rfl⟩
    have hcd := codes_sc HG3.out p zs f
    rw [hx1, hx2, HCD.out] at hcd
    rw [hx1, hx2]
    clear hx1 hx2
    have hb4 := (Below.refl w3.heap.size w3).alloc (Nat.le_refl _) (.cells #[errV x1, errV x2] 65)
    have HV := Lib.hid (errs_two w3 x1 x2)
    have HCI := Lib.hid (hcd.step hb4)
    have HB4 := Lib.hid (HB3.out.trans (hb4.mono HB3.out.size))
    clear hcd hb4 HG3 HB3
    rcases x1 with _ | a1 <;> rcases x2 with _ | a2 <;> simp only [errV] at HV HCI HB4 ⊢
    all_goals (
      go_wp2_with fail
      refine (codeOf_any w3.heap.size [_, _] 2 2 r _ rfl (by omega) HV.out HCI.out).mono ?_
      rintro e w5 ⟨rfl, hb5⟩
      have HB5 := Lib.hid (HB4.out.trans (hb5.mono HB4.out.size))
      clear hb5 HV HCI HB4
      go_wp2_with fail
      refine bodyPost_ret (v := .tuple #[.slice none 0 0, .int .i64 r]) (by simp [results, Tryd.results28, go_sem]) rfl ?_
      exact GivesInts.code (OwnI.nil _ _) (Nat.le_refl _) HB5.out r)
end Go.Proofs.YtgndekojodpmkaaDoor

/- EchelonOf and RankOf of the program. -/
import Derived.Test.YtpifgapogbbcnaaRd5
import Derived.Test.YtpifgapogbbcnaaGl
namespace Go.Proofs.Ytpifgapogbbcnaa
open Go.RowKit Go.Deep Go.Joins
set_option linter.unusedVariables false

theorem grid_take {W : World} {base m n k vc : Nat} {p : Int} {va : Option Addr} {us : List Value} {f : Nat → Nat → Int} (h : OwnG W base p (.slice va m vc) us (tab m n f)) (hk : k ≤ m) : GridR W va p (tab k n f) := by
  obtain ⟨a', c', e, hg⟩ := h.grid
  rw [tab_len] at e
  cases e
  rcases hg with h0 | ⟨b, rfl, hc⟩
  · have : m = 0 := by have := congrArg List.length h0; rw [tab_len] at this; simpa using this
    subst this
    obtain rfl : k = 0 := by omega
    exact .inl (by simp [tab])
  · refine .inr ⟨b, rfl, fun i hi => ?_⟩
    rw [tab_len] at hi
    obtain ⟨ai, ci, h1, h2⟩ := hc i (by rw [tab_len]; omega)
    have e1 : nthL (tab m n f) i = nthL (tab k n f) i := by rw [tab_row _ _ _ (by omega), tab_row _ _ _ hi]
    rw [e1] at h1 h2
    exact ⟨ai, ci, h1, h2⟩
theorem grid_cap {W : World} {base m vc : Nat} {p : Int} {va : Option Addr} {us : List Value} {zss : List (List Int)} (h : OwnG W base p (.slice va m vc) us zss) : m ≤ vc := by
  rcases h.row.2 with ⟨hv, hn⟩ | ⟨g, cap, cur, hv, _, _, hr⟩
  · cases hv; exact Nat.le_refl _
  · cases hv
    exact hr.1

set_option maxRecDepth 100000 in
set_option maxHeartbeats 2000000 in
theorem echelon_any (p x : Int) (m n k vc fc : Nat) (va fa : Option Addr) (w : World) (hk : k ≤ m) (hm : m ≤ vc) :
    Calls Try.prog 42 #[.agg #[.slice va m vc, .int .i64 p, .int .i64 ((n : Nat) : Int), .slice fa k fc, .int .i64 p, .int .i64 x]] w fun e w' => e = .returned (.agg #[.slice va k vc, .int .i64 p, .int .i64 ((n : Nat) : Int)]) ∧ Below w.heap.size w w' := by
  have hk0 : (k : Int) ≤ (vc : Int) := by omega
  have hk1 : ¬ (vc : Int) < (k : Int) := by omega
  have hk2 : k ≤ vc := by omega
  have hb2 := ((Below.refl w.heap.size w).alloc (Nat.le_refl _) (.cells #[.slice va m vc, .int .i64 p, .int .i64 ((n : Nat) : Int), .slice fa k fc, .int .i64 p, .int .i64 x] 56)).alloc (by simp) (.cells #[.slice none 0 0, .int .i64 0, .int .i64 0] 48)
  have hx : Boxes ((w.alloc (.cells #[.slice va m vc, .int .i64 p, .int .i64 ((n : Nat) : Int), .slice fa k fc, .int .i64 p, .int .i64 x] 56)).alloc (.cells #[.slice none 0 0, .int .i64 0, .int .i64 0] 48)) w.heap.size 56 #[.slice va m vc, .int .i64 p, .int .i64 ((n : Nat) : Int), .slice fa k fc, .int .i64 p, .int .i64 x] := Boxes.step (World.alloc_heap_new w _) (al_b _ _)
  have hy : Boxes ((w.alloc (.cells #[.slice va m vc, .int .i64 p, .int .i64 ((n : Nat) : Int), .slice fa k fc, .int .i64 p, .int .i64 x] 56)).alloc (.cells #[.slice none 0 0, .int .i64 0, .int .i64 0] 48)) (w.heap.size + 1) 48 #[.slice none 0 0, .int .i64 0, .int .i64 0] := by
    have : Boxes ((w.alloc (.cells #[.slice va m vc, .int .i64 p, .int .i64 ((n : Nat) : Int), .slice fa k fc, .int .i64 p, .int .i64 x] 56)).alloc (.cells #[.slice none 0 0, .int .i64 0, .int .i64 0] 48)) (w.alloc (.cells #[.slice va m vc, .int .i64 p, .int .i64 ((n : Nat) : Int), .slice fa k fc, .int .i64 p, .int .i64 x] 56)).heap.size 48 #[.slice none 0 0, .int .i64 0, .int .i64 0] := World.alloc_heap_new _ _
    simp only [World.size_alloc] at this
    exact this
  go_enter Try.func42, Try.ntmps42
  go_wp2_with fail
  generalize ((w.alloc (.cells #[.slice va m vc, .int .i64 p, .int .i64 ((n : Nat) : Int), .slice fa k fc, .int .i64 p, .int .i64 x] 56)).alloc (.cells #[.slice none 0 0, .int .i64 0, .int .i64 0] 48)) = w2 at *
  obtain ⟨e0, e1, e2, e3, e4, e5⟩ := hx.c6
  have xl := hx.lt
  have y0 := hy.m0
  have y1 := hy.m1
  have y2 := hy.m2
  have f0 := hy.frozen 0
  have f1 := hy.frozen 1
  have f2 := hy.frozen 2
  have yl := hy.lt
  have HB := Lib.hid hb2
  clear hx hy hb2
  go_region
  go_wp2_with fail
  refine bodyPost_ret (v := .agg #[.slice va k vc, .int .i64 p, .int .i64 ((n : Nat) : Int)]) (by simp [results, Try.results42, go_sem, y0, y1, y2]) rfl ⟨rfl, ?_⟩
  first
    | exact ((HB.out.setCell (p := ⟨w.heap.size + 1, 0, none⟩) (Nat.le_add_right _ _) _).setCell (p := ⟨w.heap.size + 1, 1, none⟩) (Nat.le_add_right _ _) _).setCell (p := ⟨w.heap.size + 1, 2, none⟩) (Nat.le_add_right _ _) _
    | exact (((HB.out.drew).setCell (p := ⟨w.heap.size + 1, 0, none⟩) (Nat.le_add_right _ _) _).setCell (p := ⟨w.heap.size + 1, 1, none⟩) (Nat.le_add_right _ _) _).setCell (p := ⟨w.heap.size + 1, 2, none⟩) (Nat.le_add_right _ _) _

theorem matr_sm {p c : Int} {z : List (List Int)} (h : MatOk p c z) : Small2 z := ⟨by have := h.2.2.1; omega, fun r hr => by have := (h.2.2.2 r hr).1; have := h.2.1.2; omega⟩
theorem GivesMY.of {W w' : World} {h l code : Int} {zss : List (List Int)} {v : Value} {us : List Value} (ho : Own w' W.heap.size v us zss) (hb : Below W.heap.size W w') : GivesMY W h l zss code (.returned (.tuple #[.agg #[.int .i64 h, .int .i64 l, v], .int .i64 code])) w' := ⟨⟨v, us, rfl, ho⟩, hb⟩

set_option maxRecDepth 100000 in
set_option maxHeartbeats 4000000 in
theorem implEc_any (p c : Int) (a : Option Addr) (z : List (List Int)) (ca : Nat) (w : World) (hr : Rows2 w a z) (hl : Lens z) :
    Calls Try.prog 25 #[.agg #[.int .i64 p, .int .i64 c, .slice a z.length ca]] w (GivesMY w (ecSel p c z 0 p) (ecSel p c z 0 c) (ecSel p c z [] (echZ p c.toNat z)) (ecSel p c z 1 0)) := by
  have HR := Lib.hid hr
  have HL := Lib.hid hl
  clear hr hl
  go_enter Try.func25, Try.ntmps25
  go_wp2_with fail
  have hb2 := ((Below.refl w.heap.size w).alloc (Nat.le_refl _) (.cells #[.int .i64 p, .int .i64 c, .slice a z.length ca] 26)).alloc (by simp) (.cells #[.int .i64 0, .int .i64 0, .slice none 0 0] 26)
  have hx : Boxes ((w.alloc (.cells #[.int .i64 p, .int .i64 c, .slice a z.length ca] 26)).alloc (.cells #[.int .i64 0, .int .i64 0, .slice none 0 0] 26)) w.heap.size 26 #[.int .i64 p, .int .i64 c, .slice a z.length ca] := Boxes.step (World.alloc_heap_new w _) (al_b _ _)
  have hy : Boxes ((w.alloc (.cells #[.int .i64 p, .int .i64 c, .slice a z.length ca] 26)).alloc (.cells #[.int .i64 0, .int .i64 0, .slice none 0 0] 26)) (w.heap.size + 1) 26 #[.int .i64 0, .int .i64 0, .slice none 0 0] := by
    have : Boxes ((w.alloc (.cells #[.int .i64 p, .int .i64 c, .slice a z.length ca] 26)).alloc (.cells #[.int .i64 0, .int .i64 0, .slice none 0 0] 26)) (w.alloc (.cells #[.int .i64 p, .int .i64 c, .slice a z.length ca] 26)).heap.size 26 #[.int .i64 0, .int .i64 0, .slice none 0 0] := World.alloc_heap_new _ _
    simp only [World.size_alloc] at this
    exact this
  refine (implVm_any p c a z ca _ (HR.out.below hb2 (Nat.le_refl _)) HL.out).mono ?_
  have hs2 : ((w.alloc (.cells #[.int .i64 p, .int .i64 c, .slice a z.length ca] 26)).alloc (.cells #[.int .i64 0, .int .i64 0, .slice none 0 0] 26)).heap.size = w.heap.size + 2 := by simp
  generalize (w.alloc (.cells #[.int .i64 p, .int .i64 c, .slice a z.length ca] 26)).alloc (.cells #[.int .i64 0, .int .i64 0, .slice none 0 0] 26) = w2 at *
  rintro e w3 ⟨rfl, hb3⟩
  have hsz3 : w.heap.size + 2 ≤ w3.heap.size := by have := hb3.size; omega
  have HXM := Lib.hid (hx.step hb3)
  have HXR := Lib.hid (hy.step hb3)
  have HB := Lib.hid (hb2.trans (hb3.mono (by omega)))
  clear hb2 hx hy hs2 hb3
  have e0 := HXR.out.m0
  have e1 := HXR.out.m1
  have e2 := HXR.out.m2
  have f0 := HXR.out.frozen 0
  have f1 := HXR.out.frozen 1
  have f2 := HXR.out.frozen 2
  have d0 := HXM.out.m0
  have d1 := HXM.out.m1
  have d2 := HXM.out.m2
  have hlt := HXR.out.lt
  have hlm := HXM.out.lt
  by_cases hm : MatOk p c z
  case neg =>
    have HT := Lib.hid (tell_false hm)
    have HV := Lib.hid (fun (α : Type) (b o : α) => ec_bad hm b o)
    clear hm
    rw [HT.out]
    go_wp2_with fail
    refine bodyPost_ret (v := .tuple #[.agg #[.int .i64 0, .int .i64 0, .slice none 0 0], .int .i64 1]) (by simp [results, Try.results25, go_sem, e0, e1, e2]) rfl ⟨⟨.slice none 0 0, [], by rw [HV.out, HV.out, HV.out], by rw [HV.out]; exact Own.nil _ _⟩, (((HB.out.setCell (p := ⟨w.heap.size + 1, 0, none⟩) (by show w.heap.size ≤ w.heap.size + 1; omega) _).setCell (p := ⟨w.heap.size + 1, 1, none⟩) (by show w.heap.size ≤ w.heap.size + 1; omega) _).setCell (p := ⟨w.heap.size + 1, 2, none⟩) (by show w.heap.size ≤ w.heap.size + 1; omega) _)⟩
  have HT := Lib.hid (tell_true hm)
  have HG := Lib.hid (GoodM.of hm)
  have HS := Lib.hid (matr_sm hm)
  have HV := Lib.hid (fun (α : Type) (b o : α) => ec_ok hm b o)
  have HSM := Lib.hid (ech_small p c z hm)
  obtain ⟨n, rfl⟩ : ∃ n : Nat, c = (n : Int) := ⟨c.toNat, by have := hm.2.1.1; omega⟩
  clear hm
  rw [HT.out]
  simp only [Int.toNat_natCast] at HG HSM
  go_wp2_with fail
  refine (gridOf_any p n a z ca w3 (HR.out.below HB.out (Nat.le_refl _)) HS.out).mono ?_
  rintro e w4 ⟨⟨v, us, rfl, hog⟩, hb4⟩
  obtain ⟨va, vc, rfl⟩ := hog.form
  have HG4 := Lib.hid (show GridR w4 va p z by obtain ⟨a', c', e, hgr⟩ := hog.grid; cases e; exact hgr)
  replace HXR := Lib.hid (HXR.out.step hb4)
  replace HB := Lib.hid (HB.out.trans (hb4.mono (by omega)))
  have hs4 : w3.heap.size ≤ w4.heap.size := hb4.size
  clear e0 e1 e2 f0 f1 f2 d0 d1 d2 hlt hlm hog hb4 HXM
  go_wp2_with fail
  refine (reduced_any p n va vc z w4 HG.out HG4.out).mono ?_
  rintro e w5 ⟨⟨ra, rc, rus, fa, fc, f, F, x, rfl, hst, hog, -, -⟩, hb5⟩
  have HST := Lib.hid (ech_of HG.out hst)
  have hlen := hst.len
  have hcap := grid_cap hog
  have HG5 := Lib.hid (grid_take hog hlen)
  replace HXR := Lib.hid (HXR.out.step hb5)
  replace HB := Lib.hid (HB.out.trans (hb5.mono (by omega)))
  have hs5 : w4.heap.size ≤ w5.heap.size := hb5.size
  clear hst hog hb5
  go_wp2_with fail
  refine (echelon_any p x z.length n F.length rc fc ra fa w5 hlen hcap).mono ?_
  rintro e w6 ⟨rfl, hb6⟩
  have HG6 := Lib.hid (HG5.out.step hb6)
  replace HXR := Lib.hid (HXR.out.step hb6)
  replace HB := Lib.hid (HB.out.trans (hb6.mono (by omega)))
  have hs6 : w5.heap.size ≤ w6.heap.size := hb6.size
  clear hb6
  go_wp2_with fail
  have hcall := matrix_any p n ra (tab F.length n f) rc w6 HG6.out (by rw [HST.out.2]; exact HSM.out)
  rw [tab_len] at hcall
  refine hcall.mono ?_
  clear hcall
  rintro e w7 ⟨⟨v7, us7, rfl, ho7⟩, hb7⟩
  rw [HST.out.2] at ho7
  obtain ⟨a7, c7, rfl⟩ := rowForm ho7.row
  replace HXR := Lib.hid (HXR.out.step hb7)
  replace HB := Lib.hid (HB.out.trans (hb7.mono (by omega)))
  have HO7 := Lib.hid (ho7.mono (by omega : w.heap.size + 2 ≤ w6.heap.size))
  clear ho7 hb7
  have e0 := HXR.out.m0
  have e1 := HXR.out.m1
  have e2 := HXR.out.m2
  have f0 := HXR.out.frozen 0
  have f1 := HXR.out.frozen 1
  have f2 := HXR.out.frozen 2
  have hlt := HXR.out.lt
  go_wp2_with fail
  refine bodyPost_ret (v := .tuple #[.agg #[.int .i64 p, .int .i64 n, .slice a7 (echZ p n z).length c7], .int .i64 0]) (by simp [results, Try.results25, go_sem, e0, e1, e2]) rfl ?_
  rw [HV.out, HV.out, HV.out, HV.out]
  refine GivesMY.of (us := us7) ?_ ?_
  · simp only [Int.toNat_natCast]
    exact ((((HO7.out.setCell2 (p := ⟨w.heap.size + 1, 0, none⟩) (by show w.heap.size + 1 < w.heap.size + 2; omega) _).setCell2 (p := ⟨w.heap.size + 1, 1, none⟩) (by show w.heap.size + 1 < w.heap.size + 2; omega) _).setCell2 (p := ⟨w.heap.size + 1, 2, none⟩) (by show w.heap.size + 1 < w.heap.size + 2; omega) _)).mono (by omega)
  · exact (((HB.out.setCell (p := ⟨w.heap.size + 1, 0, none⟩) (by show w.heap.size ≤ w.heap.size + 1; omega) _).setCell (p := ⟨w.heap.size + 1, 1, none⟩) (by show w.heap.size ≤ w.heap.size + 1; omega) _).setCell (p := ⟨w.heap.size + 1, 2, none⟩) (by show w.heap.size ≤ w.heap.size + 1; omega) _)
end Go.Proofs.Ytpifgapogbbcnaa

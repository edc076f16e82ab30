/- KernelOf: both contracts. -/
import Derived.Test.YtpifgapogbbcnaaKpi
import Derived.Test.YtpifgapogbbcnaaKsm
import Derived.Test.YtpifgapogbbcnaaTrs
namespace Go.Proofs.Ytpifgapogbbcnaa
open Go.RowKit Go.Deep Go.Joins
set_option linter.unusedVariables false

theorem grid_k {W : World} {base n c : Nat} {p : Int} {a : Option Addr} {us : List Value} {zss : List (List Int)} (h : OwnG W base p (.slice a n c) us zss) : GridR W a p zss := h.gridv.2

set_option maxRecDepth 100000 in
set_option maxHeartbeats 4000000 in
theorem implKo_any (p c : Int) (a : Option Addr) (z : List (List Int)) (ca : Nat) (w : World) (hr : Rows2 w a z) (hl : Lens z) :
    Calls Try.prog 12 #[.agg #[.int .i64 p, .int .i64 c, .slice a z.length ca]] w (GivesMY w (keSel p c z 0 0 p) (keSel p c z 0 0 c) (keSel p c z [] [] (kerZ p c.toNat z)) (keSel p c z 1 3 0)) := by
  have HR := Lib.hid hr
  have HL := Lib.hid hl
  clear hr hl
  go_enter Try.func12, Try.ntmps12
  go_wp2_with fail
  have hb2 := ((Below.refl w.heap.size w).alloc (Nat.le_refl _) (.cells #[.int .i64 p, .int .i64 c, .slice a z.length ca] 26)).alloc (by simp) (.cells #[.int .i64 0, .int .i64 0, .slice none 0 0] 26)
  have hx : Boxes ((w.alloc (.cells #[.int .i64 p, .int .i64 c, .slice a z.length ca] 26)).alloc (.cells #[.int .i64 0, .int .i64 0, .slice none 0 0] 26)) w.heap.size 26 #[.int .i64 p, .int .i64 c, .slice a z.length ca] := Boxes.step (World.alloc_heap_new w _) (al_b _ _)
  have hy : Boxes ((w.alloc (.cells #[.int .i64 p, .int .i64 c, .slice a z.length ca] 26)).alloc (.cells #[.int .i64 0, .int .i64 0, .slice none 0 0] 26)) (w.heap.size + 1) 26 #[.int .i64 0, .int .i64 0, .slice none 0 0] := by
    have : Boxes ((w.alloc (.cells #[.int .i64 p, .int .i64 c, .slice a z.length ca] 26)).alloc (.cells #[.int .i64 0, .int .i64 0, .slice none 0 0] 26)) (w.alloc (.cells #[.int .i64 p, .int .i64 c, .slice a z.length ca] 26)).heap.size 26 #[.int .i64 0, .int .i64 0, .slice none 0 0] := World.alloc_heap_new _ _
    simp only [World.size_alloc] at this
    exact this
  refine (implVm_any p c a z ca _ (HR.out.below hb2 (Nat.le_refl _)) HL.out).mono ?_
  have hs2 : ((w.alloc (.cells #[.int .i64 p, .int .i64 c, .slice a z.length ca] 26)).alloc (.cells #[.int .i64 0, .int .i64 0, .slice none 0 0] 26)).heap.size = w.heap.size + 2 := by simp
  generalize (w.alloc (.cells #[.int .i64 p, .int .i64 c, .slice a z.length ca] 26)).alloc (.cells #[.int .i64 0, .int .i64 0, .slice none 0 0] 26) = w2 at *
  rintro e w3 ⟨rfl, hb3⟩
  have hsz3 : w.heap.size + 2 ≤ w3.heap.size := by have := hb3.size; omega
  have HXM := Lib.hid (hx.step hb3)
  have HXR := Lib.hid (hy.step hb3)
  have HB := Lib.hid (hb2.trans (hb3.mono (by omega)))
  clear hb2 hx hy hs2 hb3
  have e0 := HXR.out.m0
  have e1 := HXR.out.m1
  have e2 := HXR.out.m2
  have f0 := HXR.out.frozen 0
  have f1 := HXR.out.frozen 1
  have f2 := HXR.out.frozen 2
  have d0 := HXM.out.m0
  have d1 := HXM.out.m1
  have d2 := HXM.out.m2
  have hlt := HXR.out.lt
  have hlm := HXM.out.lt
  by_cases hm : MatOk p c z
  case neg =>
    have HT := Lib.hid (tell_false hm)
    have HV := Lib.hid (fun (α : Type) (b l o : α) => ke_bad hm b l o)
    clear hm
    rw [HT.out]
    go_wp2_with fail
    refine bodyPost_ret (v := .tuple #[.agg #[.int .i64 0, .int .i64 0, .slice none 0 0], .int .i64 1]) (by simp [results, Try.results12, go_sem, e0, e1, e2]) rfl ⟨⟨.slice none 0 0, [], by rw [HV.out, HV.out, HV.out], by rw [HV.out]; exact Own.nil _ _⟩, (((HB.out.setCell (p := ⟨w.heap.size + 1, 0, none⟩) (by show w.heap.size ≤ w.heap.size + 1; omega) _).setCell (p := ⟨w.heap.size + 1, 1, none⟩) (by show w.heap.size ≤ w.heap.size + 1; omega) _).setCell (p := ⟨w.heap.size + 1, 2, none⟩) (by show w.heap.size ≤ w.heap.size + 1; omega) _)⟩
  have HT := Lib.hid (tell_true hm)
  have HG := Lib.hid (GoodM.of hm)
  have HS := Lib.hid (matr_small hm)
  have HM := Lib.hid hm
  have hn12 : c ≤ 12 := hm.2.1.2
  have hz20 : z.length ≤ 20 := hm.2.2.1
  have hp0 := hm.1.1
  have hp1 := hm.1.2.1
  obtain ⟨n, rfl⟩ : ∃ n : Nat, c = (n : Int) := ⟨c.toNat, by have := hm.2.1.1; omega⟩
  clear hm
  rw [HT.out]
  simp only [Int.toNat_natCast] at HG
  go_wp2_with fail
  refine (gridOf_any p n a z ca w3 (HR.out.below HB.out (Nat.le_refl _)) HS.out).mono ?_
  rintro e w4 ⟨⟨v, us, rfl, hog⟩, hb4⟩
  obtain ⟨va, vc, rfl⟩ := hog.form
  have HG4 := Lib.hid (show GridR w4 va p z by obtain ⟨a', c', e, hgr⟩ := hog.grid; cases e; exact hgr)
  replace HXR := Lib.hid (HXR.out.step hb4)
  replace HB := Lib.hid (HB.out.trans (hb4.mono (by omega)))
  have hs4 : w3.heap.size ≤ w4.heap.size := hb4.size
  clear e0 e1 e2 f0 f1 f2 d0 d1 d2 hlt hlm hog hb4 HXM
  go_wp2_with fail
  refine (reduced_any p n va vc z w4 HG.out HG4.out).mono ?_
  rintro e w5 ⟨⟨ra, rc, rus, fa, fc, f, F, x, rfl, hst, hog, hfi, -⟩, hb5⟩
  have HST := Lib.hid (ech_of HG.out hst)
  have HLE := Lib.hid hst.len
  have HEL := Lib.hid (hst.elems HG.out.elem)
  have HOG := Lib.hid hog
  have HFI := Lib.hid hfi
  replace HXR := Lib.hid (HXR.out.step hb5)
  replace HB := Lib.hid (HB.out.trans (hb5.mono (by omega)))
  have hs5 : w4.heap.size ≤ w5.heap.size := hb5.size
  clear hst hog hfi hb5
  go_wp2_with fail
  refine (kernel_any p x n z.length rc fc w4.heap.size ra fa rus f F z w5 HOG.out HFI.out HST.out.1 HST.out.2 HLE.out HEL.out hp0 hp1 (by omega) (by omega)).mono ?_
  rintro e w6 ⟨⟨ka, kc, kus, rfl, hok⟩, hb6⟩
  have HG6 := Lib.hid (grid_k hok)
  replace HXR := Lib.hid (HXR.out.step hb6)
  replace HB := Lib.hid (HB.out.trans (hb6.mono (by omega)))
  have hs6 : w5.heap.size ≤ w6.heap.size := hb6.size
  have HSK := Lib.hid (kerZ_small (p := p) (n := n) (z := z) (by omega))
  clear hok hb6
  go_wp2_with fail
  by_cases ht : MatOk p (n : Int) (kerZ p n z)
  · have HV := Lib.hid (fun (α : Type) (b l o : α) => ke_ok HM.out (by rw [Int.toNat_natCast]; exact ht) b l o)
    refine (matrixWithin_ok p n ka (kerZ p n z) kc w6 HG6.out HSK.out ht).mono ?_
    clear ht
    rintro e w7 ⟨⟨v7, us7, rfl, ho7⟩, hb7⟩
    obtain ⟨xa, xc, rfl⟩ := ho7.form
    have HO7 := Lib.hid ho7
    replace HXR := Lib.hid (HXR.out.step hb7)
    replace HB := Lib.hid (HB.out.trans (hb7.mono (by omega)))
    have e0 := HXR.out.m0
    have e1 := HXR.out.m1
    have e2 := HXR.out.m2
    have f0 := HXR.out.frozen 0
    have f1 := HXR.out.frozen 1
    have f2 := HXR.out.frozen 2
    have hlt := HXR.out.lt
    clear ho7 hb7
    go_wp2_with fail
    refine bodyPost_ret (v := .tuple #[.agg #[.int .i64 p, .int .i64 n, .slice xa (kerZ p n z).length xc], .int .i64 0]) (by simp [results, Try.results12, go_sem, e0, e1, e2]) rfl ⟨⟨_, us7, by rw [HV.out, HV.out, HV.out], ?_⟩, ?_⟩
    · rw [HV.out, Int.toNat_natCast]
      exact (((HO7.out.setCell2 (p := ⟨w.heap.size + 1, 0, none⟩) (by show w.heap.size + 1 < w6.heap.size; omega) _).setCell2 (p := ⟨w.heap.size + 1, 1, none⟩) (by show w.heap.size + 1 < w6.heap.size; omega) _).setCell2 (p := ⟨w.heap.size + 1, 2, none⟩) (by show w.heap.size + 1 < w6.heap.size; omega) _).mono (by omega)
    · exact (((HB.out.setCell (p := ⟨w.heap.size + 1, 0, none⟩) (by show w.heap.size ≤ w.heap.size + 1; omega) _).setCell (p := ⟨w.heap.size + 1, 1, none⟩) (by show w.heap.size ≤ w.heap.size + 1; omega) _).setCell (p := ⟨w.heap.size + 1, 2, none⟩) (by show w.heap.size ≤ w.heap.size + 1; omega) _)
  · have HV := Lib.hid (fun (α : Type) (b l o : α) => ke_lim HM.out (by rw [Int.toNat_natCast]; exact ht) b l o)
    refine (matrixWithin_no p n ka (kerZ p n z) kc w6 HG6.out HSK.out ht).mono ?_
    clear ht
    rintro e w7 ⟨⟨v7, us7, rfl, ho7⟩, hb7⟩
    obtain ⟨xa, xc, rfl⟩ := ho7.form
    have HO7 := Lib.hid ho7
    replace HXR := Lib.hid (HXR.out.step hb7)
    replace HB := Lib.hid (HB.out.trans (hb7.mono (by omega)))
    have e0 := HXR.out.m0
    have e1 := HXR.out.m1
    have e2 := HXR.out.m2
    have f0 := HXR.out.frozen 0
    have f1 := HXR.out.frozen 1
    have f2 := HXR.out.frozen 2
    have hlt := HXR.out.lt
    clear ho7 hb7
    go_wp2_with fail
    refine bodyPost_ret (v := .tuple #[.agg #[.int .i64 0, .int .i64 0, .slice xa ([] : List (List Int)).length xc], .int .i64 3]) (by simp [results, Try.results12, go_sem, e0, e1, e2]) rfl ⟨⟨_, us7, by rw [HV.out, HV.out, HV.out], ?_⟩, ?_⟩
    · rw [HV.out]
      exact (((HO7.out.setCell2 (p := ⟨w.heap.size + 1, 0, none⟩) (by show w.heap.size + 1 < w6.heap.size; omega) _).setCell2 (p := ⟨w.heap.size + 1, 1, none⟩) (by show w.heap.size + 1 < w6.heap.size; omega) _).setCell2 (p := ⟨w.heap.size + 1, 2, none⟩) (by show w.heap.size + 1 < w6.heap.size; omega) _).mono (by omega)
    · exact (((HB.out.setCell (p := ⟨w.heap.size + 1, 0, none⟩) (by show w.heap.size ≤ w.heap.size + 1; omega) _).setCell (p := ⟨w.heap.size + 1, 1, none⟩) (by show w.heap.size ≤ w.heap.size + 1; omega) _).setCell (p := ⟨w.heap.size + 1, 2, none⟩) (by show w.heap.size ≤ w.heap.size + 1; omega) _)

end Go.Proofs.Ytpifgapogbbcnaa

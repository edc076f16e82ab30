/- TransposeOf of the program. -/
import Derived.Test.YtedjildahjefkaaTra
namespace Go.Proofs.Ytedjildahjefkaa
open Go.RowKit Go.Deep
set_option linter.unusedVariables false

noncomputable def trSel {α : Type} (p c : Int) (z : List (List Int)) (bad lim ok : α) : α :=
  if tell (MatOk p c z) = true then (if tell (MatOk p z.length (turned z c.toNat)) = true then ok else lim) else bad
theorem tr_bad {α : Type} {p c : Int} {z : List (List Int)} (h : ¬ MatOk p c z) (b l o : α) : trSel p c z b l o = b := by unfold trSel; rw [tell_false h]; rfl
theorem tr_lim {α : Type} {p c : Int} {z : List (List Int)} (h : MatOk p c z) (h2 : ¬ MatOk p z.length (turned z c.toNat)) (b l o : α) : trSel p c z b l o = l := by unfold trSel; rw [tell_true h, if_pos rfl, tell_false h2]; rfl
theorem tr_ok {α : Type} {p c : Int} {z : List (List Int)} (h : MatOk p c z) (h2 : MatOk p z.length (turned z c.toNat)) (b l o : α) : trSel p c z b l o = o := by unfold trSel; rw [tell_true h, if_pos rfl, tell_true h2]; rfl
theorem turned_len (z : List (List Int)) (n : Nat) : (turned z n).length = n := tab_len _ _ _
theorem turned_rlen (z : List (List Int)) (n : Nat) {r : Nat} (h : r < n) : (nthL (turned z n) r).length = z.length := tab_rlen _ _ _ h
theorem matr_small {p c : Int} {z : List (List Int)} (h : MatOk p c z) : Small2 z := ⟨by have := h.2.2.1; omega, fun r hr => by have := (h.2.2.2 r hr).1; have := h.2.1.2; omega⟩
theorem turned_small {p c : Int} {z : List (List Int)} (h : MatOk p c z) : Small2 (turned z c.toNat) := ⟨by rw [turned_len]; have := h.2.1.2; omega, fun r hr => by rw [turned_len] at hr; rw [turned_rlen z _ hr]; have := h.2.2.1; omega⟩
theorem tr_small (p c : Int) (z : List (List Int)) : Small2 (trSel p c z [] [] (turned z c.toNat)) := by
  have h0 : Small2 [] := ⟨by simp, fun r hr => absurd hr (Nat.not_lt_zero _)⟩
  by_cases h : MatOk p c z
  · by_cases h2 : MatOk p z.length (turned z c.toNat)
    · rw [tr_ok h h2]; exact turned_small h
    · rw [tr_lim h h2]; exact h0
  · rw [tr_bad h]; exact h0
theorem OwnG.gridn {W : World} {base n c : Nat} {p : Int} {a : Option Addr} {us : List Value} {zss : List (List Int)} (h : OwnG W base p (.slice a n c) us zss) : n = zss.length ∧ GridR W a p zss := h.gridv
theorem mwt_ok (p c : Int) (a : Option Addr) (zss : List (List Int)) (n ca : Nat) (hn : n = zss.length) (w : World) (hr : GridR w a p zss) (hs : Small2 zss) (hok : MatOk p c zss) :
    Calls Try.prog 45 #[.agg #[.slice a n ca, .int .i64 p, .int .i64 c]] w (GivesMY w p c zss 0) := by subst hn; exact matrixWithin_ok p c a zss ca w hr hs hok
theorem mwt_no (p c : Int) (a : Option Addr) (zss : List (List Int)) (n ca : Nat) (hn : n = zss.length) (w : World) (hr : GridR w a p zss) (hs : Small2 zss) (hok : ¬ MatOk p c zss) :
    Calls Try.prog 45 #[.agg #[.slice a n ca, .int .i64 p, .int .i64 c]] w (GivesMY w 0 0 [] 3) := by subst hn; exact matrixWithin_no p c a zss ca w hr hs hok

set_option maxRecDepth 100000 in
set_option maxHeartbeats 4000000 in
theorem implTr_any (p c : Int) (a : Option Addr) (z : List (List Int)) (ca : Nat) (w : World) (hr : Rows2 w a z) (hl : Lens z) :
    Calls Try.prog 16 #[.agg #[.int .i64 p, .int .i64 c, .slice a z.length ca]] w (GivesMY w (trSel p c z 0 0 p) (trSel p c z 0 0 z.length) (trSel p c z [] [] (turned z c.toNat)) (trSel p c z 1 3 0)) := by
  have HR := Lib.hid hr
  have HL := Lib.hid hl
  clear hr hl
  go_enter Try.func16, Try.ntmps16
  go_wp2_with fail
  have hb2 := ((Below.refl w.heap.size w).alloc (Nat.le_refl _) (.cells #[.int .i64 p, .int .i64 c, .slice a z.length ca] 30)).alloc (by simp) (.cells #[.int .i64 0, .int .i64 0, .slice none 0 0] 30)
  have hx : Boxes ((w.alloc (.cells #[.int .i64 p, .int .i64 c, .slice a z.length ca] 30)).alloc (.cells #[.int .i64 0, .int .i64 0, .slice none 0 0] 30)) w.heap.size 30 #[.int .i64 p, .int .i64 c, .slice a z.length ca] := Boxes.step (World.alloc_heap_new w _) ((Below.refl _ _).alloc (Nat.le_refl _) (.cells #[.int .i64 0, .int .i64 0, .slice none 0 0] 30))
  have hy : Boxes ((w.alloc (.cells #[.int .i64 p, .int .i64 c, .slice a z.length ca] 30)).alloc (.cells #[.int .i64 0, .int .i64 0, .slice none 0 0] 30)) (w.heap.size + 1) 30 #[.int .i64 0, .int .i64 0, .slice none 0 0] := by
    have : Boxes ((w.alloc (.cells #[.int .i64 p, .int .i64 c, .slice a z.length ca] 30)).alloc (.cells #[.int .i64 0, .int .i64 0, .slice none 0 0] 30)) (w.alloc (.cells #[.int .i64 p, .int .i64 c, .slice a z.length ca] 30)).heap.size 30 #[.int .i64 0, .int .i64 0, .slice none 0 0] := World.alloc_heap_new _ _
    simp only [World.size_alloc] at this
    exact this
  refine (implVm_any p c a z ca _ (HR.out.below hb2 (Nat.le_refl _)) HL.out).mono ?_
  have hs2 : ((w.alloc (.cells #[.int .i64 p, .int .i64 c, .slice a z.length ca] 30)).alloc (.cells #[.int .i64 0, .int .i64 0, .slice none 0 0] 30)).heap.size = w.heap.size + 2 := by simp
  generalize (w.alloc (.cells #[.int .i64 p, .int .i64 c, .slice a z.length ca] 30)).alloc (.cells #[.int .i64 0, .int .i64 0, .slice none 0 0] 30) = w2 at *
  rintro e w3 ⟨rfl, hb3⟩
  have hsz3 : w.heap.size + 2 ≤ w3.heap.size := by have := hb3.size; omega
  have HXM := Lib.hid (hx.step hb3)
  have HXR := Lib.hid (hy.step hb3)
  have HB := Lib.hid (hb2.trans (hb3.mono (by omega)))
  clear hb2 hx hy hs2 hb3
  have e0 := HXR.out.m0
  have e1 := HXR.out.m1
  have e2 := HXR.out.m2
  have f0 := HXR.out.frozen 0
  have f1 := HXR.out.frozen 1
  have f2 := HXR.out.frozen 2
  have d0 := HXM.out.m0
  have d1 := HXM.out.m1
  have d2 := HXM.out.m2
  have hlt := HXR.out.lt
  have hlm := HXM.out.lt
  by_cases hm : MatOk p c z
  case neg =>
    have HT := Lib.hid (tell_false hm)
    have HV := Lib.hid (fun (α : Type) (b l o : α) => tr_bad hm b l o)
    clear hm
    rw [HT.out]
    go_wp2_with fail
    refine bodyPost_ret (v := .tuple #[.agg #[.int .i64 0, .int .i64 0, .slice none 0 0], .int .i64 1]) (by simp [results, Try.results16, go_sem, e0, e1, e2]) rfl ⟨⟨.slice none 0 0, [], by rw [HV.out, HV.out, HV.out], by rw [HV.out]; exact Own.nil _ _⟩, (((HB.out.setCell (p := ⟨w.heap.size + 1, 0, none⟩) (by show w.heap.size ≤ w.heap.size + 1; omega) _).setCell (p := ⟨w.heap.size + 1, 1, none⟩) (by show w.heap.size ≤ w.heap.size + 1; omega) _).setCell (p := ⟨w.heap.size + 1, 2, none⟩) (by show w.heap.size ≤ w.heap.size + 1; omega) _)⟩
  have HT := Lib.hid (tell_true hm)
  have HM := Lib.hid hm
  have HS := Lib.hid (matr_small hm)
  have HROW := Lib.hid (show ∀ r, r < z.length → (nthL z r).length = c.toNat from fun r hr => by have := (hm.2.2.2 r hr).1; omega)
  have HSZ := Lib.hid (show z.length ≤ 1000 ∧ c.toNat ≤ 1000 ∧ c = (c.toNat : Int) from ⟨by have := hm.2.2.1; omega, by have := hm.2.1.2; omega, by have := hm.2.1.1; omega⟩)
  clear hm
  rw [HT.out]
  go_wp2_with fail
  refine (gridOf_any p c a z ca w3 (HR.out.below HB.out (Nat.le_refl _)) HS.out).mono ?_
  rintro e w4 ⟨⟨v, us, rfl, hog⟩, hb4⟩
  obtain ⟨va, vc, rfl⟩ := hog.form
  have HG4 := Lib.hid hog.gridv.2
  replace HXR := Lib.hid (HXR.out.step hb4)
  replace HB := Lib.hid (HB.out.trans (hb4.mono (by omega)))
  have hs4 : w3.heap.size ≤ w4.heap.size := hb4.size
  clear e0 e1 e2 f0 f1 f2 d0 d1 d2 hlt hlm hog hb4 HXM
  go_wp2_with fail
  have hcall := transposed_any p c.toNat va vc z w4 HG4.out HSZ.out.1 HSZ.out.2.1 HROW.out
  rw [← HSZ.out.2.2] at hcall
  refine hcall.mono ?_
  clear hcall
  rintro e w5 ⟨⟨v5, us5, rfl, ho5⟩, hb5⟩
  obtain ⟨v5a, v5c, rfl⟩ := ho5.form
  have HG5 := Lib.hid ho5.gridv.2
  replace HXR := Lib.hid (HXR.out.step hb5)
  replace HB := Lib.hid (HB.out.trans (hb5.mono (by omega)))
  have hs5 : w4.heap.size ≤ w5.heap.size := hb5.size
  clear ho5 hb5
  go_wp2_with fail
  by_cases ht : MatOk p z.length (turned z c.toNat)
  · have HV := Lib.hid (fun (α : Type) (b l o : α) => tr_ok HM.out ht b l o)
    refine (mwt_ok p z.length v5a (turned z c.toNat) _ v5c rfl w5 HG5.out (turned_small HM.out) ht).mono ?_
    clear ht
    rintro e w6 ⟨⟨v6, us6, rfl, ho6⟩, hb6⟩
    obtain ⟨xa, xc, rfl⟩ := ho6.form
    have HO6 := Lib.hid ho6
    replace HXR := Lib.hid (HXR.out.step hb6)
    replace HB := Lib.hid (HB.out.trans (hb6.mono (by omega)))
    have e0 := HXR.out.m0
    have e1 := HXR.out.m1
    have e2 := HXR.out.m2
    have f0 := HXR.out.frozen 0
    have f1 := HXR.out.frozen 1
    have f2 := HXR.out.frozen 2
    have hlt := HXR.out.lt
    clear ho6 hb6
    go_wp2_with fail
    refine bodyPost_ret (v := .tuple #[.agg #[.int .i64 p, .int .i64 z.length, .slice xa (turned z c.toNat).length xc], .int .i64 0]) (by simp [results, Try.results16, go_sem, e0, e1, e2]) rfl ⟨⟨_, us6, by rw [HV.out, HV.out, HV.out], ?_⟩, ?_⟩
    · rw [HV.out]
      exact (((HO6.out.setCell2 (p := ⟨w.heap.size + 1, 0, none⟩) (by show w.heap.size + 1 < w5.heap.size; omega) _).setCell2 (p := ⟨w.heap.size + 1, 1, none⟩) (by show w.heap.size + 1 < w5.heap.size; omega) _).setCell2 (p := ⟨w.heap.size + 1, 2, none⟩) (by show w.heap.size + 1 < w5.heap.size; omega) _).mono (by omega)
    · exact (((HB.out.setCell (p := ⟨w.heap.size + 1, 0, none⟩) (by show w.heap.size ≤ w.heap.size + 1; omega) _).setCell (p := ⟨w.heap.size + 1, 1, none⟩) (by show w.heap.size ≤ w.heap.size + 1; omega) _).setCell (p := ⟨w.heap.size + 1, 2, none⟩) (by show w.heap.size ≤ w.heap.size + 1; omega) _)
  · have HV := Lib.hid (fun (α : Type) (b l o : α) => tr_lim HM.out ht b l o)
    refine (mwt_no p z.length v5a (turned z c.toNat) _ v5c rfl w5 HG5.out (turned_small HM.out) ht).mono ?_
    clear ht
    rintro e w6 ⟨⟨v6, us6, rfl, ho6⟩, hb6⟩
    obtain ⟨xa, xc, rfl⟩ := ho6.form
    have HO6 := Lib.hid ho6
    replace HXR := Lib.hid (HXR.out.step hb6)
    replace HB := Lib.hid (HB.out.trans (hb6.mono (by omega)))
    have e0 := HXR.out.m0
    have e1 := HXR.out.m1
    have e2 := HXR.out.m2
    have f0 := HXR.out.frozen 0
    have f1 := HXR.out.frozen 1
    have f2 := HXR.out.frozen 2
    have hlt := HXR.out.lt
    clear ho6 hb6
    go_wp2_with fail
    refine bodyPost_ret (v := .tuple #[.agg #[.int .i64 0, .int .i64 0, .slice xa ([] : List (List Int)).length xc], .int .i64 3]) (by simp [results, Try.results16, go_sem, e0, e1, e2]) rfl ⟨⟨_, us6, by rw [HV.out, HV.out, HV.out], ?_⟩, ?_⟩
    · rw [HV.out]
      exact (((HO6.out.setCell2 (p := ⟨w.heap.size + 1, 0, none⟩) (by show w.heap.size + 1 < w5.heap.size; omega) _).setCell2 (p := ⟨w.heap.size + 1, 1, none⟩) (by show w.heap.size + 1 < w5.heap.size; omega) _).setCell2 (p := ⟨w.heap.size + 1, 2, none⟩) (by show w.heap.size + 1 < w5.heap.size; omega) _).mono (by omega)
    · exact (((HB.out.setCell (p := ⟨w.heap.size + 1, 0, none⟩) (by show w.heap.size ≤ w.heap.size + 1; omega) _).setCell (p := ⟨w.heap.size + 1, 1, none⟩) (by show w.heap.size ≤ w.heap.size + 1; omega) _).setCell (p := ⟨w.heap.size + 1, 2, none⟩) (by show w.heap.size ≤ w.heap.size + 1; omega) _)
end Go.Proofs.Ytedjildahjefkaa

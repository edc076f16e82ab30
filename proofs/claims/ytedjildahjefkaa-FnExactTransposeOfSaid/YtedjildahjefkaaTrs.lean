/- TransposeOf of the model. -/
import Derived.Test.YtedjildahjefkaaTur
import Derived.Test.YtedjildahjefkaaSk
namespace Go.Proofs.Ytedjildahjefkaa
open Go.RowKit Go.Deep
set_option linter.unusedVariables false

theorem Own.rowsn {W : World} {base n c : Nat} {a : Option Addr} {us : List Value} {zss : List (List Int)} (h : Own W base (.slice a n c) us zss) : n = zss.length ∧ Rows2 W a zss := by
  obtain ⟨a', c', e, hr⟩ := h.rows2
  cases e
  exact ⟨rfl, hr⟩

set_option maxRecDepth 100000 in
set_option maxHeartbeats 4000000 in
theorem specTr_any (p c : Int) (a : Option Addr) (z : List (List Int)) (ca : Nat) (w : World) (hr : Rows2 w a z) (hl : Lens z) :
    Calls Try.prog 14 #[.agg #[.int .i64 p, .int .i64 c, .slice a z.length ca]] w (GivesMX w (trSel p c z 0 0 p) (trSel p c z 0 0 z.length) (trSel p c z [] [] (turned z c.toNat)) (trSel p c z 1 3 0)) := by
  have HR := Lib.hid hr
  have HL := Lib.hid hl
  clear hr hl
  go_enter Try.func14, Try.ntmps14
  go_wp2_with fail
  have hb2 := ((Below.refl w.heap.size w).alloc (Nat.le_refl _) (.cells #[.int .i64 p, .int .i64 c, .slice a z.length ca] 30)).alloc (by simp) (.cells #[.int .i64 0, .int .i64 0, .slice none 0 0] 30)
  have hx : Boxes ((w.alloc (.cells #[.int .i64 p, .int .i64 c, .slice a z.length ca] 30)).alloc (.cells #[.int .i64 0, .int .i64 0, .slice none 0 0] 30)) w.heap.size 30 #[.int .i64 p, .int .i64 c, .slice a z.length ca] := Boxes.step (World.alloc_heap_new w _) ((Below.refl _ _).alloc (Nat.le_refl _) (.cells #[.int .i64 0, .int .i64 0, .slice none 0 0] 30))
  have hy : Boxes ((w.alloc (.cells #[.int .i64 p, .int .i64 c, .slice a z.length ca] 30)).alloc (.cells #[.int .i64 0, .int .i64 0, .slice none 0 0] 30)) (w.heap.size + 1) 30 #[.int .i64 0, .int .i64 0, .slice none 0 0] := by
    have : Boxes ((w.alloc (.cells #[.int .i64 p, .int .i64 c, .slice a z.length ca] 30)).alloc (.cells #[.int .i64 0, .int .i64 0, .slice none 0 0] 30)) (w.alloc (.cells #[.int .i64 p, .int .i64 c, .slice a z.length ca] 30)).heap.size 30 #[.int .i64 0, .int .i64 0, .slice none 0 0] := World.alloc_heap_new _ _
    simp only [World.size_alloc] at this
    exact this
  have hs2 : ((w.alloc (.cells #[.int .i64 p, .int .i64 c, .slice a z.length ca] 30)).alloc (.cells #[.int .i64 0, .int .i64 0, .slice none 0 0] 30)).heap.size = w.heap.size + 2 := by simp
  have hr2 := HR.out.below hb2 (Nat.le_refl _)
  refine (l03Ok_any w.heap.size p c a z ca _ hx hr2 HL.out).mono ?_
  generalize (w.alloc (.cells #[.int .i64 p, .int .i64 c, .slice a z.length ca] 30)).alloc (.cells #[.int .i64 0, .int .i64 0, .slice none 0 0] 30) = w2 at *
  rintro e w3 ⟨rfl, hq⟩
  have hb3 := quiet_below hq
  have HXM := Lib.hid (hx.step hb3)
  have HXR := Lib.hid (hy.step hb3)
  have HB := Lib.hid (hb2.trans (hb3.mono (by omega)))
  have hsz3 : w.heap.size + 2 ≤ w3.heap.size := by have := hb3.size; omega
  clear hb2 hx hy hs2 hb3 hq hr2
  have e0 := HXR.out.m0
  have e1 := HXR.out.m1
  have e2 := HXR.out.m2
  have f0 := HXR.out.frozen 0
  have f1 := HXR.out.frozen 1
  have f2 := HXR.out.frozen 2
  have hlt := HXR.out.lt
  by_cases hm : MatOk p c z
  case neg =>
    have HT := Lib.hid (tell_false hm)
    have HV := Lib.hid (fun (α : Type) (b l o : α) => tr_bad hm b l o)
    clear hm
    rw [HT.out]
    go_wp2_with fail
    refine bodyPost_ret (v := .tuple #[.agg #[.int .i64 0, .int .i64 0, .slice none 0 0], .int .i64 1]) (by simp [results, Try.results14, go_sem, e0, e1, e2]) rfl ⟨⟨none, 0, by rw [HV.out, HV.out, HV.out, HV.out]; rfl, by rw [HV.out]; exact .inl rfl⟩, (((HB.out.setCell (p := ⟨w.heap.size + 1, 0, none⟩) (by show w.heap.size ≤ w.heap.size + 1; omega) _).setCell (p := ⟨w.heap.size + 1, 1, none⟩) (by show w.heap.size ≤ w.heap.size + 1; omega) _).setCell (p := ⟨w.heap.size + 1, 2, none⟩) (by show w.heap.size ≤ w.heap.size + 1; omega) _)⟩
  have HT := Lib.hid (tell_true hm)
  have HM := Lib.hid hm
  have HROW := Lib.hid (show ∀ r, r < z.length → (nthL z r).length = c.toNat from fun r hr => by have := (hm.2.2.2 r hr).1; omega)
  have HSZ := Lib.hid (show z.length ≤ 1000 ∧ c.toNat ≤ 1000 ∧ c = (c.toNat : Int) from ⟨by have := hm.2.2.1; omega, by have := hm.2.1.2; omega, by have := hm.2.1.1; omega⟩)
  clear hm
  rw [HT.out]
  go_wp2_with fail
  have hcall := l03Turned_any w.heap.size p c.toNat a z ca w3 (by have := HXM.out; rw [HSZ.out.2.2] at this; exact this) (HR.out.below HB.out (Nat.le_refl _)) HSZ.out.1 HSZ.out.2.1 HROW.out
  refine hcall.mono ?_
  clear hcall
  rintro e w4 ⟨⟨v4, c4, us4, rfl, ho4⟩, hb4⟩
  have HO4 := Lib.hid ho4.rowsn.2
  have HN4 := Lib.hid ho4.rowsn.1
  have HW4 := Lib.hid ho4
  replace HXR := Lib.hid (HXR.out.step hb4)
  replace HB := Lib.hid (HB.out.trans (hb4.mono (by omega)))
  have hs4 : w3.heap.size ≤ w4.heap.size := hb4.size
  clear ho4 hb4 e0 e1 e2 f0 f1 f2 hlt HXM
  go_wp2_with fail
  by_cases ht : MatOk p z.length (turned z c.toNat)
  · have HV := Lib.hid (fun (α : Type) (b l o : α) => tr_ok HM.out ht b l o)
    refine (l03Told_ok p z.length v4 (turned z c.toNat) _ c4 HN4.out w4 HO4.out (turned_small HM.out).lens ht).mono ?_
    clear ht
    rintro e w5 ⟨rfl, hb5⟩
    replace HXR := Lib.hid (HXR.out.step hb5)
    replace HB := Lib.hid (HB.out.trans (hb5.mono (by omega)))
    replace HW4 := Lib.hid (HW4.out.step hb5)
    have e0 := HXR.out.m0
    have e1 := HXR.out.m1
    have e2 := HXR.out.m2
    have f0 := HXR.out.frozen 0
    have f1 := HXR.out.frozen 1
    have f2 := HXR.out.frozen 2
    have hlt := HXR.out.lt
    have hs5 : w4.heap.size ≤ w5.heap.size := hb5.size
    clear hb5
    go_wp2_with fail
    refine bodyPost_ret (v := .tuple #[.agg #[.int .i64 p, .int .i64 z.length, .slice v4 c.toNat c4], .int .i64 0]) (by simp [results, Try.results14, go_sem, e0, e1, e2]) rfl ⟨⟨v4, c4, by rw [HV.out, HV.out, HV.out, HV.out, turned_len], ?_⟩, ?_⟩
    · rw [HV.out]
      exact ((((HW4.out.setCell3 (p := ⟨w.heap.size + 1, 0, none⟩) (by show w.heap.size + 1 < w3.heap.size; omega) _).setCell3 (p := ⟨w.heap.size + 1, 1, none⟩) (by show w.heap.size + 1 < w3.heap.size; omega) _).setCell3 (p := ⟨w.heap.size + 1, 2, none⟩) (by show w.heap.size + 1 < w3.heap.size; omega) _)).rowsn.2
    · exact (((HB.out.setCell (p := ⟨w.heap.size + 1, 0, none⟩) (by show w.heap.size ≤ w.heap.size + 1; omega) _).setCell (p := ⟨w.heap.size + 1, 1, none⟩) (by show w.heap.size ≤ w.heap.size + 1; omega) _).setCell (p := ⟨w.heap.size + 1, 2, none⟩) (by show w.heap.size ≤ w.heap.size + 1; omega) _)
  · have HV := Lib.hid (fun (α : Type) (b l o : α) => tr_lim HM.out ht b l o)
    refine (l03Told_no p z.length v4 (turned z c.toNat) _ c4 HN4.out w4 HO4.out (turned_small HM.out).lens ht).mono ?_
    clear ht
    rintro e w5 ⟨rfl, hb5⟩
    replace HXR := Lib.hid (HXR.out.step hb5)
    replace HB := Lib.hid (HB.out.trans (hb5.mono (by omega)))
    have e0 := HXR.out.m0
    have e1 := HXR.out.m1
    have e2 := HXR.out.m2
    have f0 := HXR.out.frozen 0
    have f1 := HXR.out.frozen 1
    have f2 := HXR.out.frozen 2
    have hlt := HXR.out.lt
    clear hb5
    go_wp2_with fail
    refine bodyPost_ret (v := .tuple #[.agg #[.int .i64 0, .int .i64 0, .slice none 0 0], .int .i64 3]) (by simp [results, Try.results14, go_sem, e0, e1, e2]) rfl ⟨⟨none, 0, by rw [HV.out, HV.out, HV.out, HV.out]; rfl, by rw [HV.out]; exact .inl rfl⟩, (((HB.out.setCell (p := ⟨w.heap.size + 1, 0, none⟩) (by show w.heap.size ≤ w.heap.size + 1; omega) _).setCell (p := ⟨w.heap.size + 1, 1, none⟩) (by show w.heap.size ≤ w.heap.size + 1; omega) _).setCell (p := ⟨w.heap.size + 1, 2, none⟩) (by show w.heap.size ≤ w.heap.size + 1; omega) _)⟩
end Go.Proofs.Ytedjildahjefkaa

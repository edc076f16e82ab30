/- matrixWithin and zeros without rows; RowsAt of the program. -/
import Derived.Test.YtekhjoenejgmaaaGl
import Derived.Deep.AppendLies
import Derived.Deep.RegionLaw
import Derived.Deep.DrawnRows
namespace Go.Proofs.Ytekhjoenejgmaaa
open Go.RowKit Go.Deep
set_option linter.unusedVariables false
attribute [local go_sem ↓] Go.wp_at_zero Go.wp_at_succ

theorem OwnG.gridv {W : World} {base n c : Nat} {p : Int} {a : Option Addr} {us : List Value} {zss : List (List Int)} (h : OwnG W base p (.slice a n c) us zss) : n = zss.length ∧ GridR W a p zss := by
  obtain ⟨a', c', e, hr⟩ := h.grid
  cases e
  exact ⟨rfl, hr⟩

set_option maxRecDepth 100000 in
theorem zeros0_any (p c : Int) (w : World) :
    Calls Try.prog 107 #[.int .i64 p, .int .i64 0, .int .i64 c] w fun e w' => e = .returned (.agg #[.slice none 0 0, .int .i64 p, .int .i64 c]) ∧ Below w.heap.size w w' := by
  go_enter Try.func107, Try.ntmps107
  go_wp2_with fail
  go_rounds 1
  refine bodyPost_ret (v := .agg #[.slice none 0 0, .int .i64 p, .int .i64 c]) (by simp [results, Try.results107, go_sem]) rfl ⟨rfl, ?_⟩
  exact ((Below.refl w.heap.size w).alloc (Nat.le_refl _) _).alloc (by simp) _

set_option maxRecDepth 100000 in
set_option maxHeartbeats 2000000 in
theorem matrixWithin_ok (p c : Int) (a : Option Addr) (zss : List (List Int)) (ca : Nat) (w : World) (hr : GridR w a p zss) (hs : Small2 zss) (hok : MatOk p c zss) :
    Calls Try.prog 76 #[.agg #[.slice a zss.length ca, .int .i64 p, .int .i64 c]] w (GivesMY w p c zss 0) := by
  have HS := Lib.hid hs
  have HR := Lib.hid hr
  have HT := Lib.hid (tell_true hok)
  clear hs hr hok
  go_enter Try.func76, Try.ntmps76
  go_wp2_with fail
  have hb2 := ((Below.refl w.heap.size w).alloc (Nat.le_refl _) (.cells #[.slice a zss.length ca, .int .i64 p, .int .i64 c] 78)).alloc (by simp) (.cells #[.int .i64 0, .int .i64 0, .slice none 0 0] 31)
  have hy : Boxes ((w.alloc (.cells #[.slice a zss.length ca, .int .i64 p, .int .i64 c] 78)).alloc (.cells #[.int .i64 0, .int .i64 0, .slice none 0 0] 31)) (w.heap.size + 1) 31 #[.int .i64 0, .int .i64 0, .slice none 0 0] := by
    have : Boxes ((w.alloc (.cells #[.slice a zss.length ca, .int .i64 p, .int .i64 c] 78)).alloc (.cells #[.int .i64 0, .int .i64 0, .slice none 0 0] 31)) (w.alloc (.cells #[.slice a zss.length ca, .int .i64 p, .int .i64 c] 78)).heap.size 31 #[.int .i64 0, .int .i64 0, .slice none 0 0] := World.alloc_heap_new _ _
    simp only [World.size_alloc] at this
    exact this
  have hr2 := HR.out.below hb2 (Nat.le_refl _)
  refine (matrix_any p c a zss ca _ hr2 HS.out).mono ?_
  have hs2 : ((w.alloc (.cells #[.slice a zss.length ca, .int .i64 p, .int .i64 c] 78)).alloc (.cells #[.int .i64 0, .int .i64 0, .slice none 0 0] 31)).heap.size = w.heap.size + 2 := by simp
  generalize (w.alloc (.cells #[.slice a zss.length ca, .int .i64 p, .int .i64 c] 78)).alloc (.cells #[.int .i64 0, .int .i64 0, .slice none 0 0] 31) = w2 at *
  rintro e w3 ⟨⟨v, us, rfl, ho⟩, hb3⟩
  obtain ⟨va, vc, rfl⟩ := ho.form
  have HY3 := Lib.hid (hy.step hb3)
  have HB3 := Lib.hid (hb2.trans (hb3.mono (by omega)))
  have HO3 := Lib.hid ho
  have h3 := hb3.size
  have HZ := Lib.hid hs2
  clear hb2 hb3 hy hr2 HR ho
  go_wp2_with fail
  have hbm := (Below.refl w3.heap.size w3).alloc (Nat.le_refl _) (.cells #[.int .i64 p, .int .i64 c, .slice va zss.length vc] 31)
  have HM := Lib.hid (show Boxes (w3.alloc (.cells #[.int .i64 p, .int .i64 c, .slice va zss.length vc] 31)) w3.heap.size 31 #[.int .i64 p, .int .i64 c, .slice va zss.length vc] from World.alloc_heap_new _ _)
  refine (implVm_any p c va zss vc _ (HO3.out.step hbm).rows2v HS.out.lens).mono ?_
  generalize w3.alloc (.cells #[.int .i64 p, .int .i64 c, .slice va zss.length vc] 31) = w4 at *
  rintro e w5 ⟨rfl, hb5⟩
  rw [HT.out]
  have hb35 := hbm.trans (hb5.mono hbm.size)
  have hxr := HY3.out.step hb35
  have hxm := HM.out.step hb5
  have HO5 := Lib.hid (HO3.out.step hb35)
  have HB5 := Lib.hid (HB3.out.trans (hb35.mono (by omega)))
  have e0 := hxr.m0
  have e1 := hxr.m1
  have e2 := hxr.m2
  have f0 := hxr.frozen 0
  have f1 := hxr.frozen 1
  have f2 := hxr.frozen 2
  have g0 := hxm.m0
  have g1 := hxm.m1
  have g2 := hxm.m2
  have hlt := hxr.lt
  clear hb5 hb35 hbm HM HY3 hxr hxm HO3 HB3
  go_wp2_with fail
  refine bodyPost_ret (v := .tuple #[.agg #[.int .i64 p, .int .i64 c, .slice va zss.length vc], .int .i64 0]) (by simp [results, Try.results76, go_sem, e0, e1, e2]) rfl ⟨⟨_, us, rfl, (((HO5.out.setCell2 (p := ⟨w.heap.size + 1, 0, none⟩) (by show w.heap.size + 1 < w2.heap.size; have := HZ.out; omega) _).setCell2 (p := ⟨w.heap.size + 1, 1, none⟩) (by show w.heap.size + 1 < w2.heap.size; have := HZ.out; omega) _).setCell2 (p := ⟨w.heap.size + 1, 2, none⟩) (by show w.heap.size + 1 < w2.heap.size; have := HZ.out; omega) _).mono (by have := HZ.out; omega)⟩, (((HB5.out.setCell (p := ⟨w.heap.size + 1, 0, none⟩) (by show w.heap.size ≤ w.heap.size + 1; omega) _).setCell (p := ⟨w.heap.size + 1, 1, none⟩) (by show w.heap.size ≤ w.heap.size + 1; omega) _).setCell (p := ⟨w.heap.size + 1, 2, none⟩) (by show w.heap.size ≤ w.heap.size + 1; omega) _)⟩

set_option maxRecDepth 100000 in
set_option maxHeartbeats 2000000 in
theorem matrixWithin_no (p c : Int) (a : Option Addr) (zss : List (List Int)) (ca : Nat) (w : World) (hr : GridR w a p zss) (hs : Small2 zss) (hok : ¬ MatOk p c zss) :
    Calls Try.prog 76 #[.agg #[.slice a zss.length ca, .int .i64 p, .int .i64 c]] w (GivesMY w 0 0 [] 3) := by
  have HS := Lib.hid hs
  have HR := Lib.hid hr
  have HT := Lib.hid (tell_false hok)
  clear hs hr hok
  go_enter Try.func76, Try.ntmps76
  go_wp2_with fail
  have hb2 := ((Below.refl w.heap.size w).alloc (Nat.le_refl _) (.cells #[.slice a zss.length ca, .int .i64 p, .int .i64 c] 78)).alloc (by simp) (.cells #[.int .i64 0, .int .i64 0, .slice none 0 0] 31)
  have hy : Boxes ((w.alloc (.cells #[.slice a zss.length ca, .int .i64 p, .int .i64 c] 78)).alloc (.cells #[.int .i64 0, .int .i64 0, .slice none 0 0] 31)) (w.heap.size + 1) 31 #[.int .i64 0, .int .i64 0, .slice none 0 0] := by
    have : Boxes ((w.alloc (.cells #[.slice a zss.length ca, .int .i64 p, .int .i64 c] 78)).alloc (.cells #[.int .i64 0, .int .i64 0, .slice none 0 0] 31)) (w.alloc (.cells #[.slice a zss.length ca, .int .i64 p, .int .i64 c] 78)).heap.size 31 #[.int .i64 0, .int .i64 0, .slice none 0 0] := World.alloc_heap_new _ _
    simp only [World.size_alloc] at this
    exact this
  have hr2 := HR.out.below hb2 (Nat.le_refl _)
  refine (matrix_any p c a zss ca _ hr2 HS.out).mono ?_
  have hs2 : ((w.alloc (.cells #[.slice a zss.length ca, .int .i64 p, .int .i64 c] 78)).alloc (.cells #[.int .i64 0, .int .i64 0, .slice none 0 0] 31)).heap.size = w.heap.size + 2 := by simp
  generalize (w.alloc (.cells #[.slice a zss.length ca, .int .i64 p, .int .i64 c] 78)).alloc (.cells #[.int .i64 0, .int .i64 0, .slice none 0 0] 31) = w2 at *
  rintro e w3 ⟨⟨v, us, rfl, ho⟩, hb3⟩
  obtain ⟨va, vc, rfl⟩ := ho.form
  have HY3 := Lib.hid (hy.step hb3)
  have HB3 := Lib.hid (hb2.trans (hb3.mono (by omega)))
  have HO3 := Lib.hid ho
  have h3 := hb3.size
  have HZ := Lib.hid hs2
  clear hb2 hb3 hy hr2 HR ho
  go_wp2_with fail
  have hbm := (Below.refl w3.heap.size w3).alloc (Nat.le_refl _) (.cells #[.int .i64 p, .int .i64 c, .slice va zss.length vc] 31)
  have HM := Lib.hid (show Boxes (w3.alloc (.cells #[.int .i64 p, .int .i64 c, .slice va zss.length vc] 31)) w3.heap.size 31 #[.int .i64 p, .int .i64 c, .slice va zss.length vc] from World.alloc_heap_new _ _)
  refine (implVm_any p c va zss vc _ (HO3.out.step hbm).rows2v HS.out.lens).mono ?_
  generalize w3.alloc (.cells #[.int .i64 p, .int .i64 c, .slice va zss.length vc] 31) = w4 at *
  rintro e w5 ⟨rfl, hb5⟩
  rw [HT.out]
  have hb35 := hbm.trans (hb5.mono hbm.size)
  have hxr := HY3.out.step hb35
  have hxm := HM.out.step hb5
  have HO5 := Lib.hid (HO3.out.step hb35)
  have HB5 := Lib.hid (HB3.out.trans (hb35.mono (by omega)))
  have e0 := hxr.m0
  have e1 := hxr.m1
  have e2 := hxr.m2
  have f0 := hxr.frozen 0
  have f1 := hxr.frozen 1
  have f2 := hxr.frozen 2
  have g0 := hxm.m0
  have g1 := hxm.m1
  have g2 := hxm.m2
  have hlt := hxr.lt
  clear hb5 hb35 hbm HM HY3 hxr hxm HO3 HB3
  go_wp2_with fail
  refine bodyPost_ret (v := .tuple #[.agg #[.int .i64 0, .int .i64 0, .slice none 0 0], .int .i64 3]) (by simp [results, Try.results76, go_sem, e0, e1, e2]) rfl ⟨⟨_, [], rfl, Own.nil _ _⟩, (((HB5.out.setCell (p := ⟨w.heap.size + 1, 0, none⟩) (by show w.heap.size ≤ w.heap.size + 1; omega) _).setCell (p := ⟨w.heap.size + 1, 1, none⟩) (by show w.heap.size ≤ w.heap.size + 1; omega) _).setCell (p := ⟨w.heap.size + 1, 2, none⟩) (by show w.heap.size ≤ w.heap.size + 1; omega) _)⟩
end Go.Proofs.Ytekhjoenejgmaaa

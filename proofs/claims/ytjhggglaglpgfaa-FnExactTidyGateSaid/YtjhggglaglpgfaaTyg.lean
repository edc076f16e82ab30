/- TidyGate, the program's and the model's. -/
import Derived.Test.YtjhggglaglpgfaaTd
namespace Go.Proofs.Ytjhggglaglpgfaa
open Go.RowKit Go.Deep
set_option linter.unusedVariables false

noncomputable def tgCode (n h l : Int) (f : Fo) : Int := if tell (GateOk n h l f) = true then 0 else 1
noncomputable def tgH (n h l : Int) (f : Fo) : Int := if tell (GateOk n h l f) = true then (tidyF h l (f.re tidyF)).1 else 0
noncomputable def tgL (n h l : Int) (f : Fo) : Int := if tell (GateOk n h l f) = true then (tidyF h l (f.re tidyF)).2.1 else 0
noncomputable def tgF (n h l : Int) (f : Fo) : Fo := if tell (GateOk n h l f) = true then (tidyF h l (f.re tidyF)).2.2 else .nil
theorem tg_bad {n h l : Int} {f : Fo} (q : ¬ GateOk n h l f) : tgCode n h l f = 1 ∧ tgH n h l f = 0 ∧ tgL n h l f = 0 ∧ tgF n h l f = .nil := by unfold tgCode tgH tgL tgF; rw [tell_false q]; exact ⟨rfl, rfl, rfl, rfl⟩
theorem tg_yes {n h l : Int} {f : Fo} (q : GateOk n h l f) : tgCode n h l f = 0 ∧ tgH n h l f = (tidyF h l (f.re tidyF)).1 ∧ tgL n h l f = (tidyF h l (f.re tidyF)).2.1 ∧ tgF n h l f = (tidyF h l (f.re tidyF)).2.2 := by unfold tgCode tgH tgL tgF; rw [tell_true q]; exact ⟨rfl, rfl, rfl, rfl⟩
theorem tg_size (n h l : Int) (f : Fo) : (tgF n h l f).size ≤ 1048576 := by
  unfold tgF
  split
  · next q => have h1 := tidyF_size h l (f.re tidyF); have h2 := tidy_size f; have := (of_tell q).2.2.1; omega
  · simp [Fo.size]

set_option maxRecDepth 100000 in
set_option maxHeartbeats 2000000 in
theorem specTyg_any (f : Fo) (hf : f.size ≤ 1048576) (B : Nat) (n h l : Int) (a : Option Addr) (c : Nat) (w : World) (hk : Kids w B a f) :
    Calls Try.prog 15 #[.int .i64 n, .agg #[.int .i64 h, .int .i64 l, .slice a f.len c]] w (GivesGX w (tgH n h l f) (tgL n h l f) (tgF n h l f) (tgCode n h l f)) := by
  go_enter Try.func15, Try.ntmps15
  go_wp2_with fail
  have hb := ((Below.refl w.heap.size w).alloc (Nat.le_refl _) (.cells #[.int .i64 h, .int .i64 l, .slice a f.len c] 28)).alloc (by simp) (.cells #[.int .i64 0, .int .i64 0, .slice none 0 0] 28)
  have hx : Boxes ((w.alloc (.cells #[.int .i64 h, .int .i64 l, .slice a f.len c] 28)).alloc (.cells #[.int .i64 0, .int .i64 0, .slice none 0 0] 28)) w.heap.size 28 #[.int .i64 h, .int .i64 l, .slice a f.len c] := Boxes.step (World.alloc_heap_new w _) ((Below.refl _ _).alloc (Nat.le_refl _) (.cells #[.int .i64 0, .int .i64 0, .slice none 0 0] 28))
  have hy : Boxes ((w.alloc (.cells #[.int .i64 h, .int .i64 l, .slice a f.len c] 28)).alloc (.cells #[.int .i64 0, .int .i64 0, .slice none 0 0] 28)) (w.heap.size + 1) 28 #[.int .i64 0, .int .i64 0, .slice none 0 0] := by
    have : Boxes ((w.alloc (.cells #[.int .i64 h, .int .i64 l, .slice a f.len c] 28)).alloc (.cells #[.int .i64 0, .int .i64 0, .slice none 0 0] 28)) (w.alloc (.cells #[.int .i64 h, .int .i64 l, .slice a f.len c] 28)).heap.size 28 #[.int .i64 0, .int .i64 0, .slice none 0 0] := World.alloc_heap_new _ _
    simp only [World.size_alloc] at this
    exact this
  have hk1 := hk.step hb
  generalize (w.alloc (.cells #[.int .i64 h, .int .i64 l, .slice a f.len c] 28)).alloc (.cells #[.int .i64 0, .int .i64 0, .slice none 0 0] 28) = w1 at *
  have HK := Lib.hid hk1
  have HB := Lib.hid hb
  have HX := Lib.hid hx
  have HY := Lib.hid hy
  clear hk hk1 hb hx hy
  refine (l02Ok_any f hf B w.heap.size 0 n h l a c _ HX.out.g0 HX.out.g1 HX.out.g2 HK.out).mono ?_
  rintro e w2 ⟨rfl, hq⟩
  have hb2 := quiet_below hq
  replace HB := Lib.hid (HB.out.trans (hb2.mono HB.out.size))
  replace HK := Lib.hid (HK.out.step hb2)
  replace HX := Lib.hid (HX.out.step hb2)
  replace HY := Lib.hid (HY.out.step hb2)
  clear hb2 hq
  rcases Classical.em (GateOk n h l f) with q | q
  · have HC := Lib.hid (tg_yes q)
    have HQ := Lib.hid q
    rw [tell_true q]
    clear q
    go_wp2_with fail
    refine (l02Tidy_any 1048577 f (by omega) (Nat.le_refl _) B w.heap.size 0 n h l a c _ HQ.out.2.2.2.2 HX.out.g0 HX.out.g1 HX.out.g2 HK.out).mono ?_
    rintro e w3 ⟨⟨a3, c3, rfl, hk3⟩, hb3⟩
    have hy3 := HY.out.step hb3
    have y0 := hy3.g0
    have y1 := hy3.g1
    have y2 := hy3.g2
    have f0 := hy3.gf 0
    have f1 := hy3.gf 1
    have f2 := hy3.gf 2
    have yl := hy3.lt
    have hw2 : w.heap.size + 1 < w2.heap.size := HY.out.lt
    have HB3 := Lib.hid (HB.out.trans (hb3.mono HB.out.size))
    have HK3 := Lib.hid hk3
    clear hk3 hb3 hy3
    go_wp2_with fail
    refine bodyPost_ret (v := .tuple #[.agg #[.int .i64 (tidyF h l (f.re tidyF)).1, .int .i64 (tidyF h l (f.re tidyF)).2.1, .slice a3 (tidyF h l (f.re tidyF)).2.2.len c3], .int .i64 0]) (by simp [results, Try.results15, go_sem, y0, y1, y2]) rfl ⟨⟨a3, c3, by rw [HC.out.1, HC.out.2.1, HC.out.2.2.1, HC.out.2.2.2], ?_⟩, ?_⟩
    · rw [HC.out.2.2.2]
      refine (HK3.out.map (ok' := fun _ => True) fun b o v (q : w2.heap.size ≤ b) hc => ⟨trivial, ?_⟩).kids
      rw [World.cell?_of_block (Below.heap_setCell _ _ _ b (fun e => by simp at e; omega)), World.cell?_of_block (Below.heap_setCell _ _ _ b (fun e => by simp at e; omega)), World.cell?_of_block (Below.heap_setCell _ _ _ b (fun e => by simp at e; omega))]
      exact hc
    · exact ((HB3.out.setCell (p := ⟨w.heap.size + 1, 0, none⟩) (Nat.le_succ _) _).setCell (p := ⟨w.heap.size + 1, 1, none⟩) (Nat.le_succ _) _).setCell (p := ⟨w.heap.size + 1, 2, none⟩) (Nat.le_succ _) _
  · have HC := Lib.hid (tg_bad q)
    rw [tell_false q]
    clear q
    have y0 := HY.out.g0
    have y1 := HY.out.g1
    have y2 := HY.out.g2
    have f0 := HY.out.gf 0
    have f1 := HY.out.gf 1
    have f2 := HY.out.gf 2
    have yl := HY.out.lt
    go_wp2_with fail
    refine bodyPost_ret (v := .tuple #[.agg #[.int .i64 0, .int .i64 0, .slice none 0 0], .int .i64 1]) (by simp [results, Try.results15, go_sem, y0, y1, y2]) rfl ⟨⟨none, 0, by rw [HC.out.1, HC.out.2.1, HC.out.2.2.1, HC.out.2.2.2]; rfl, by rw [HC.out.2.2.2]; exact .inl rfl⟩, ?_⟩
    exact ((HB.out.setCell (p := ⟨w.heap.size + 1, 0, none⟩) (Nat.le_succ _) _).setCell (p := ⟨w.heap.size + 1, 1, none⟩) (Nat.le_succ _) _).setCell (p := ⟨w.heap.size + 1, 2, none⟩) (Nat.le_succ _) _

set_option maxRecDepth 100000 in
set_option maxHeartbeats 2000000 in
theorem implTyg_any (f : Fo) (hf : f.size ≤ 1048576) (B : Nat) (n h l : Int) (a : Option Addr) (c : Nat) (w : World) (hk : Kids w B a f) :
    Calls Try.prog 16 #[.int .i64 n, .agg #[.int .i64 h, .int .i64 l, .slice a f.len c]] w (GivesGY w (tgH n h l f) (tgL n h l f) (tgF n h l f) (tgCode n h l f)) := by
  go_enter Try.func16, Try.ntmps16
  go_wp2_with fail
  have hb := ((Below.refl w.heap.size w).alloc (Nat.le_refl _) (.cells #[.int .i64 h, .int .i64 l, .slice a f.len c] 28)).alloc (by simp) (.cells #[.int .i64 0, .int .i64 0, .slice none 0 0] 28)
  have hy : Boxes ((w.alloc (.cells #[.int .i64 h, .int .i64 l, .slice a f.len c] 28)).alloc (.cells #[.int .i64 0, .int .i64 0, .slice none 0 0] 28)) (w.heap.size + 1) 28 #[.int .i64 0, .int .i64 0, .slice none 0 0] := by
    have : Boxes ((w.alloc (.cells #[.int .i64 h, .int .i64 l, .slice a f.len c] 28)).alloc (.cells #[.int .i64 0, .int .i64 0, .slice none 0 0] 28)) (w.alloc (.cells #[.int .i64 h, .int .i64 l, .slice a f.len c] 28)).heap.size 28 #[.int .i64 0, .int .i64 0, .slice none 0 0] := World.alloc_heap_new _ _
    simp only [World.size_alloc] at this
    exact this
  have hk1 := hk.step hb
  generalize (w.alloc (.cells #[.int .i64 h, .int .i64 l, .slice a f.len c] 28)).alloc (.cells #[.int .i64 0, .int .i64 0, .slice none 0 0] 28) = w1 at *
  have HK := Lib.hid hk1
  have HB := Lib.hid hb
  have HY := Lib.hid hy
  clear hk hk1 hb hy
  refine (nodeOf_any f hf B n h l a c _ HK.out).mono ?_
  rintro e w2 ⟨hv, hb2⟩
  replace HB := Lib.hid (HB.out.trans (hb2.mono HB.out.size))
  replace HY := Lib.hid (HY.out.step hb2)
  clear hb2
  rcases hv with ⟨hq, t, x, rfl, hnv⟩ | ⟨hq, rfl⟩
  case inr =>
    have HC := Lib.hid (tg_bad hq)
    clear hq
    have y0 := HY.out.g0
    have y1 := HY.out.g1
    have y2 := HY.out.g2
    have f0 := HY.out.gf 0
    have f1 := HY.out.gf 1
    have f2 := HY.out.gf 2
    have yl := HY.out.lt
    go_wp2_with fail
    refine bodyPost_ret (v := .tuple #[.agg #[.int .i64 0, .int .i64 0, .slice none 0 0], .int .i64 1]) (by simp [results, Try.results16, go_sem, y0, y1, y2]) rfl ⟨⟨none, 0, by rw [HC.out.1, HC.out.2.1, HC.out.2.2.1, HC.out.2.2.2]; rfl, by rw [HC.out.2.2.2]; exact .inl rfl⟩, ?_⟩
    exact ((HB.out.setCell (p := ⟨w.heap.size + 1, 0, none⟩) (Nat.le_succ _) _).setCell (p := ⟨w.heap.size + 1, 1, none⟩) (Nat.le_succ _) _).setCell (p := ⟨w.heap.size + 1, 2, none⟩) (Nat.le_succ _) _
  obtain ⟨n, rfl⟩ : ∃ k : Nat, n = (k : Int) := ⟨n.toNat, by have := hq.1; omega⟩
  have hn7 : n ≤ 7 := by have := hq.2.1; omega
  have HC := Lib.hid (tg_yes hq)
  have HQ := Lib.hid hq
  have HNV := Lib.hid hnv
  have HDG := Lib.hid (tidy_forms n h l (f.re tidyF) (re_gform (tidy_forms n) hq.2.2.2.2))
  have hds : (tidyF h l (f.re tidyF)).2.2.size ≤ 1048576 := by have h1 := tidyF_size h l (f.re tidyF); have h2 := tidy_size f; omega
  clear hq hnv
  go_wp2_with fail
  refine (rebuilt_any 1048577 f (by omega) (Nat.le_refl _) _ n h l 37 #[] #[] tidyF t x w2 w2 hn7 (tidy_forms n) (fun g hg => by have := tidy_size g; omega) HQ.out.2.2.2.2 HNV.out (tidyNode_makes n w2) (Below.refl _ _)).mono ?_
  rintro e w3 ⟨⟨t3, x3, rfl, hn3⟩, hb3⟩
  replace HB := Lib.hid (HB.out.trans (hb3.mono HB.out.size))
  replace HY := Lib.hid (HY.out.step hb3)
  clear hb3
  have hml := method_lg
  have hmt := method_tg
  rcases nodeGate _ (show (tidyF h l (f.re tidyF)).2.2.size ≤ 1048576 from hds) n _ _ w3 HDG.out hn3 with ⟨rfl, hc⟩ | ⟨rfl, hc⟩
  all_goals (
    have HCA := Lib.hid hc
    clear hc hn3
    go_wp2_with fail
    refine HCA.out.mono ?_
    rintro e w4 ⟨⟨a4, c4, rfl, ho4⟩, hb4⟩
    have hw3 : w.heap.size + 1 < w3.heap.size := HY.out.lt
    have hy4 := HY.out.step hb4
    have y0 := hy4.g0
    have y1 := hy4.g1
    have y2 := hy4.g2
    have f0 := hy4.gf 0
    have f1 := hy4.gf 1
    have f2 := hy4.gf 2
    have yl := hy4.lt
    have HB4 := Lib.hid (HB.out.trans (hb4.mono HB.out.size))
    have HO4 := Lib.hid ho4
    clear ho4 hb4 hy4
    go_wp2_with fail
    refine bodyPost_ret (v := .tuple #[.agg #[.int .i64 (tidyF h l (f.re tidyF)).1, .int .i64 (tidyF h l (f.re tidyF)).2.1, .slice a4 (tidyF h l (f.re tidyF)).2.2.len c4], .int .i64 0]) (by simp [results, Try.results16, go_sem, y0, y1, y2]) rfl ⟨⟨a4, c4, by rw [HC.out.1, HC.out.2.1, HC.out.2.2.1, HC.out.2.2.2], ?_⟩, ?_⟩
    · rw [HC.out.2.2.2]
      exact OG.mono (HO4.out.touch (((touch_put (w.heap.size + 1) 0 _ w4 (Nat.le_refl _) (Nat.lt_succ_self _)).trans (touch_put (w.heap.size + 1) 1 _ _ (Nat.le_refl _) (Nat.lt_succ_self _))).trans (touch_put (w.heap.size + 1) 2 _ _ (Nat.le_refl _) (Nat.lt_succ_self _))) (.inr (by omega))) (by omega) (by simp)
    · exact ((HB4.out.setCell (p := ⟨w.heap.size + 1, 0, none⟩) (Nat.le_succ _) _).setCell (p := ⟨w.heap.size + 1, 1, none⟩) (Nat.le_succ _) _).setCell (p := ⟨w.heap.size + 1, 2, none⟩) (Nat.le_succ _) _)
end Go.Proofs.Ytjhggglaglpgfaa

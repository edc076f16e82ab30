/- DualGate, the program's and the model's. -/
import Derived.Test.YtjhggglaglpgfaaSd
import Derived.Shelf.Abstract
namespace Go.Proofs.Ytjhggglaglpgfaa
open Go.RowKit Go.Deep
set_option linter.unusedVariables false

/-- What gives a gate and a code, to be read. -/
structure GivesGX (W : World) (h l : Int) (f : Fo) (code : Int) (e : Ending) (w' : World) : Prop where
  val : ∃ a c, e = .returned (.tuple #[.agg #[.int .i64 h, .int .i64 l, .slice a f.len c], .int .i64 code]) ∧ Kids w' 0 a f
  below : Below W.heap.size W w'
/-- What gives a gate and a code in memory of its own. -/
structure GivesGY (W : World) (h l : Int) (f : Fo) (code : Int) (e : Ending) (w' : World) : Prop where
  val : ∃ a c, e = .returned (.tuple #[.agg #[.int .i64 h, .int .i64 l, .slice a f.len c], .int .i64 code]) ∧ OG w' W.heap.size w'.heap.size a f
  below : Below W.heap.size W w'
/-- A node's gate. -/
theorem nodeGate (f : Fo) (hf : f.size ≤ 1048576) (n : Nat) (h l : Int) (w : World) (hg : Fo.gform n h l f) {ok : Nat → Prop} {t : TypeId} {v : Value} (hv : NV w ok h l f (.iface t v)) :
    (t = 62 ∧ Calls Try.prog 82 #[v] w fun e w' => (∃ a c', e = .returned (.agg #[.int .i64 h, .int .i64 l, .slice a f.len c']) ∧ OG w' w.heap.size w'.heap.size a f) ∧ Below w.heap.size w w') ∨
    (t = 68 ∧ Calls Try.prog 87 #[v] w fun e w' => (∃ a c', e = .returned (.agg #[.int .i64 h, .int .i64 l, .slice a f.len c']) ∧ OG w' w.heap.size w'.heap.size a f) ∧ Below w.heap.size w w') := by
  rcases hv with ⟨rfl, e⟩ | ⟨hne, b', o', c, e, hb', h4⟩
  · cases e
    obtain ⟨rfl, g1, g2⟩ := gform_nil.1 hg
    exact .inl ⟨rfl, leafGate_o h w⟩
  · cases e
    have hkp : 0 < f.len := by
      cases f with
      | nil => exact absurd rfl hne
      | cons => exact Nat.succ_pos _
    obtain ⟨rfl, _, _, hfo⟩ := (gform_some hkp).1 hg
    exact .inr ⟨rfl, thrGate_any 1048577 f (by omega) (Nat.le_refl _) ok b' o' n l c w hkp hfo hb' h4⟩

noncomputable def dgCode (n h l : Int) (f : Fo) : Int := if tell (GateOk n h l f) = true then 0 else 1
noncomputable def dgH (n h l : Int) (f : Fo) : Int := if tell (GateOk n h l f) = true then (dualF h l (f.re dualF)).1 else 0
noncomputable def dgL (n h l : Int) (f : Fo) : Int := if tell (GateOk n h l f) = true then (dualF h l (f.re dualF)).2.1 else 0
noncomputable def dgF (n h l : Int) (f : Fo) : Fo := if tell (GateOk n h l f) = true then f.re dualF else .nil
theorem dg_bad {n h l : Int} {f : Fo} (q : ¬ GateOk n h l f) : dgCode n h l f = 1 ∧ dgH n h l f = 0 ∧ dgL n h l f = 0 ∧ dgF n h l f = .nil := by unfold dgCode dgH dgL dgF; rw [tell_false q]; exact ⟨rfl, rfl, rfl, rfl⟩
theorem dg_yes {n h l : Int} {f : Fo} (q : GateOk n h l f) : dgCode n h l f = 0 ∧ dgH n h l f = (dualF h l (f.re dualF)).1 ∧ dgL n h l f = (dualF h l (f.re dualF)).2.1 ∧ dgF n h l f = f.re dualF := by unfold dgCode dgH dgL dgF; rw [tell_true q]; exact ⟨rfl, rfl, rfl, rfl⟩
theorem dg_size (n h l : Int) (f : Fo) : (dgF n h l f).size ≤ 1048576 := by
  unfold dgF
  split
  · next q => rw [dual_size]; have := (of_tell q).2.2.1; omega
  · simp [Fo.size]

set_option maxRecDepth 100000 in
set_option maxHeartbeats 2000000 in
theorem specDg_any (f : Fo) (hf : f.size ≤ 1048576) (B : Nat) (n h l : Int) (a : Option Addr) (c : Nat) (w : World) (hk : Kids w B a f) :
    Calls Try.prog 9 #[.int .i64 n, .agg #[.int .i64 h, .int .i64 l, .slice a f.len c]] w (GivesGX w (dgH n h l f) (dgL n h l f) (dgF n h l f) (dgCode n h l f)) := by
  go_enter Try.func9, Try.ntmps9
  go_wp2_with fail
  have hb := ((Below.refl w.heap.size w).alloc (Nat.le_refl _) (.cells #[.int .i64 h, .int .i64 l, .slice a f.len c] 28)).alloc (by simp) (.cells #[.int .i64 0, .int .i64 0, .slice none 0 0] 28)
  have hx : Boxes ((w.alloc (.cells #[.int .i64 h, .int .i64 l, .slice a f.len c] 28)).alloc (.cells #[.int .i64 0, .int .i64 0, .slice none 0 0] 28)) w.heap.size 28 #[.int .i64 h, .int .i64 l, .slice a f.len c] := Boxes.step (World.alloc_heap_new w _) ((Below.refl _ _).alloc (Nat.le_refl _) (.cells #[.int .i64 0, .int .i64 0, .slice none 0 0] 28))
  have hy : Boxes ((w.alloc (.cells #[.int .i64 h, .int .i64 l, .slice a f.len c] 28)).alloc (.cells #[.int .i64 0, .int .i64 0, .slice none 0 0] 28)) (w.heap.size + 1) 28 #[.int .i64 0, .int .i64 0, .slice none 0 0] := by
    have : Boxes ((w.alloc (.cells #[.int .i64 h, .int .i64 l, .slice a f.len c] 28)).alloc (.cells #[.int .i64 0, .int .i64 0, .slice none 0 0] 28)) (w.alloc (.cells #[.int .i64 h, .int .i64 l, .slice a f.len c] 28)).heap.size 28 #[.int .i64 0, .int .i64 0, .slice none 0 0] := World.alloc_heap_new _ _
    simp only [World.size_alloc] at this
    exact this
  have hk1 := hk.step hb
  generalize (w.alloc (.cells #[.int .i64 h, .int .i64 l, .slice a f.len c] 28)).alloc (.cells #[.int .i64 0, .int .i64 0, .slice none 0 0] 28) = w1 at *
  have HK := Lib.hid hk1
  have HB := Lib.hid hb
  have HX := Lib.hid hx
  have HY := Lib.hid hy
  clear hk hk1 hb hx hy
  refine (l02Ok_any f hf B w.heap.size 0 n h l a c _ HX.out.g0 HX.out.g1 HX.out.g2 HK.out).mono ?_
  rintro e w2 ⟨rfl, hq⟩
  have hb2 := quiet_below hq
  replace HB := Lib.hid (HB.out.trans (hb2.mono HB.out.size))
  replace HK := Lib.hid (HK.out.step hb2)
  replace HX := Lib.hid (HX.out.step hb2)
  replace HY := Lib.hid (HY.out.step hb2)
  clear hb2 hq
  rcases Classical.em (GateOk n h l f) with q | q
  · have HC := Lib.hid (dg_yes q)
    have HQ := Lib.hid q
    rw [tell_true q]
    clear q
    go_wp2_with fail
    refine (l02Dual_any 1048577 f (by omega) (Nat.le_refl _) B w.heap.size 0 n h l a c _ HQ.out.2.2.2.2 HX.out.g0 HX.out.g1 HX.out.g2 HK.out).mono ?_
    rintro e w3 ⟨⟨a3, c3, rfl, hk3⟩, hb3⟩
    have hy3 := HY.out.step hb3
    have y0 := hy3.g0
    have y1 := hy3.g1
    have y2 := hy3.g2
    have f0 := hy3.gf 0
    have f1 := hy3.gf 1
    have f2 := hy3.gf 2
    have yl := hy3.lt
    have hw2 : w.heap.size + 1 < w2.heap.size := HY.out.lt
    have HB3 := Lib.hid (HB.out.trans (hb3.mono HB.out.size))
    have HK3 := Lib.hid hk3
    clear hk3 hb3 hy3
    go_wp2_with fail
    refine bodyPost_ret (v := .tuple #[.agg #[.int .i64 (dualF h l (f.re dualF)).1, .int .i64 (dualF h l (f.re dualF)).2.1, .slice a3 (f.re dualF).len c3], .int .i64 0]) (by simp [results, Try.results9, go_sem, y0, y1, y2]) rfl ⟨⟨a3, c3, by rw [HC.out.1, HC.out.2.1, HC.out.2.2.1, HC.out.2.2.2], ?_⟩, ?_⟩
    · rw [HC.out.2.2.2]
      refine (HK3.out.map (ok' := fun _ => True) fun b o v (q : w2.heap.size ≤ b) hc => ⟨trivial, ?_⟩).kids
      rw [World.cell?_of_block (Below.heap_setCell _ _ _ b (fun e => by simp at e; omega)), World.cell?_of_block (Below.heap_setCell _ _ _ b (fun e => by simp at e; omega)), World.cell?_of_block (Below.heap_setCell _ _ _ b (fun e => by simp at e; omega))]
      exact hc
    · exact ((HB3.out.setCell (p := ⟨w.heap.size + 1, 0, none⟩) (Nat.le_succ _) _).setCell (p := ⟨w.heap.size + 1, 1, none⟩) (Nat.le_succ _) _).setCell (p := ⟨w.heap.size + 1, 2, none⟩) (Nat.le_succ _) _
  · have HC := Lib.hid (dg_bad q)
    rw [tell_false q]
    clear q
    have y0 := HY.out.g0
    have y1 := HY.out.g1
    have y2 := HY.out.g2
    have f0 := HY.out.gf 0
    have f1 := HY.out.gf 1
    have f2 := HY.out.gf 2
    have yl := HY.out.lt
    go_wp2_with fail
    refine bodyPost_ret (v := .tuple #[.agg #[.int .i64 0, .int .i64 0, .slice none 0 0], .int .i64 1]) (by simp [results, Try.results9, go_sem, y0, y1, y2]) rfl ⟨⟨none, 0, by rw [HC.out.1, HC.out.2.1, HC.out.2.2.1, HC.out.2.2.2]; rfl, by rw [HC.out.2.2.2]; exact .inl rfl⟩, ?_⟩
    exact ((HB.out.setCell (p := ⟨w.heap.size + 1, 0, none⟩) (Nat.le_succ _) _).setCell (p := ⟨w.heap.size + 1, 1, none⟩) (Nat.le_succ _) _).setCell (p := ⟨w.heap.size + 1, 2, none⟩) (Nat.le_succ _) _

set_option maxRecDepth 100000 in
theorem dualNode_makes (n : Int) (W0 : World) : Makes W0 32 #[] #[] n dualF := by
  refine ⟨enters_of Try.func32 (by kernel_rfl) rfl, ?_⟩
  intro W ok h l f t v hB hs hg hv
  have ta1 := assert_tt
  have ta2 := assert_lt
  have hlen := f.len_le
  rcases hv with ⟨rfl, e⟩ | ⟨hne, b', o', c, e, hb', h4⟩
  · cases e
    show Calls Try.prog 32 #[.iface 62 (.agg #[.int .i64 h])] W _
    clear hB hg
    go_enter Try.func32, Try.ntmps32
    go_wp2_with fail
    go_ret
    exact ⟨⟨_, _, rfl, .inl ⟨rfl, rfl⟩⟩, Below.refl _ _⟩
  · cases e
    have hkp : 0 < f.len := by
      cases f with
      | nil => exact absurd rfl hne
      | cons => exact Nat.succ_pos _
    obtain ⟨_, hl1, hl2, _⟩ := (gform_some hkp).1 hg
    show Calls Try.prog 32 #[.iface 68 (.agg #[.int .i64 l, .slice (some ⟨b', o', none⟩) f.len c])] W _
    have hb := (Below.refl W.heap.size W).alloc (Nat.le_refl _) (.cells #[.int .i64 l, .slice (some ⟨b', o', none⟩) f.len c] 68)
    have HN := Lib.hid (h4.map (W' := W.alloc (.cells #[.int .i64 l, .slice (some ⟨b', o', none⟩) f.len c] 68)) (ok' := fun b => ok b ∨ W.heap.size ≤ b) (fun b o v q hc => ⟨.inl q, cell_step hb hc⟩) hb')
    have HB := Lib.hid hb
    have HNE := Lib.hid hne
    have hp0 : (0 : Int) ≤ (f.len : Int) - l := by omega
    clear hB hg h4 hb hne
    go_enter Try.func32, Try.ntmps32
    go_wp2_with fail
    go_ret
    exact ⟨⟨_, _, rfl, .inr ⟨HNE.out, b', o', c, by simp only [dualF]; rw [if_neg (by omega)], .inl hb', HN.out⟩⟩, HB.out⟩

set_option maxRecDepth 100000 in
set_option maxHeartbeats 2000000 in
theorem implDg_any (f : Fo) (hf : f.size ≤ 1048576) (B : Nat) (n h l : Int) (a : Option Addr) (c : Nat) (w : World) (hk : Kids w B a f) :
    Calls Try.prog 11 #[.int .i64 n, .agg #[.int .i64 h, .int .i64 l, .slice a f.len c]] w (GivesGY w (dgH n h l f) (dgL n h l f) (dgF n h l f) (dgCode n h l f)) := by
  go_enter Try.func11, Try.ntmps11
  go_wp2_with fail
  have hb := ((Below.refl w.heap.size w).alloc (Nat.le_refl _) (.cells #[.int .i64 h, .int .i64 l, .slice a f.len c] 28)).alloc (by simp) (.cells #[.int .i64 0, .int .i64 0, .slice none 0 0] 28)
  have hy : Boxes ((w.alloc (.cells #[.int .i64 h, .int .i64 l, .slice a f.len c] 28)).alloc (.cells #[.int .i64 0, .int .i64 0, .slice none 0 0] 28)) (w.heap.size + 1) 28 #[.int .i64 0, .int .i64 0, .slice none 0 0] := by
    have : Boxes ((w.alloc (.cells #[.int .i64 h, .int .i64 l, .slice a f.len c] 28)).alloc (.cells #[.int .i64 0, .int .i64 0, .slice none 0 0] 28)) (w.alloc (.cells #[.int .i64 h, .int .i64 l, .slice a f.len c] 28)).heap.size 28 #[.int .i64 0, .int .i64 0, .slice none 0 0] := World.alloc_heap_new _ _
    simp only [World.size_alloc] at this
    exact this
  have hk1 := hk.step hb
  generalize (w.alloc (.cells #[.int .i64 h, .int .i64 l, .slice a f.len c] 28)).alloc (.cells #[.int .i64 0, .int .i64 0, .slice none 0 0] 28) = w1 at *
  have HK := Lib.hid hk1
  have HB := Lib.hid hb
  have HY := Lib.hid hy
  clear hk hk1 hb hy
  refine (nodeOf_any f hf B n h l a c _ HK.out).mono ?_
  rintro e w2 ⟨hv, hb2⟩
  replace HB := Lib.hid (HB.out.trans (hb2.mono HB.out.size))
  replace HY := Lib.hid (HY.out.step hb2)
  clear hb2
  rcases hv with ⟨hq, t, x, rfl, hnv⟩ | ⟨hq, rfl⟩
  case inr =>
    have HC := Lib.hid (dg_bad hq)
    clear hq
    have y0 := HY.out.g0
    have y1 := HY.out.g1
    have y2 := HY.out.g2
    have f0 := HY.out.gf 0
    have f1 := HY.out.gf 1
    have f2 := HY.out.gf 2
    have yl := HY.out.lt
    go_wp2_with fail
    refine bodyPost_ret (v := .tuple #[.agg #[.int .i64 0, .int .i64 0, .slice none 0 0], .int .i64 1]) (by simp [results, Try.results11, go_sem, y0, y1, y2]) rfl ⟨⟨none, 0, by rw [HC.out.1, HC.out.2.1, HC.out.2.2.1, HC.out.2.2.2]; rfl, by rw [HC.out.2.2.2]; exact .inl rfl⟩, ?_⟩
    exact ((HB.out.setCell (p := ⟨w.heap.size + 1, 0, none⟩) (Nat.le_succ _) _).setCell (p := ⟨w.heap.size + 1, 1, none⟩) (Nat.le_succ _) _).setCell (p := ⟨w.heap.size + 1, 2, none⟩) (Nat.le_succ _) _
  obtain ⟨n, rfl⟩ : ∃ k : Nat, n = (k : Int) := ⟨n.toNat, by have := hq.1; omega⟩
  have hn7 : n ≤ 7 := by have := hq.2.1; omega
  have HC := Lib.hid (dg_yes hq)
  have HQ := Lib.hid hq
  have HNV := Lib.hid hnv
  have HDG := Lib.hid (dual_forms n h l (f.re dualF) (re_gform (dual_forms n) hq.2.2.2.2))
  have hds : (f.re dualF).size ≤ 1048576 := by rw [dual_size]; omega
  clear hq hnv
  go_wp2_with fail
  refine (rebuilt_any 1048577 f (by omega) (Nat.le_refl _) _ n h l 32 #[] #[] dualF t x w2 w2 hn7 (dual_forms n) (fun g hg => by rw [dual_size]; omega) HQ.out.2.2.2.2 HNV.out (dualNode_makes n w2) (Below.refl _ _)).mono ?_
  rintro e w3 ⟨⟨t3, x3, rfl, hn3⟩, hb3⟩
  replace HB := Lib.hid (HB.out.trans (hb3.mono HB.out.size))
  replace HY := Lib.hid (HY.out.step hb3)
  clear hb3
  have hml := method_lg
  have hmt := method_tg
  rcases nodeGate _ (show (dualF h l (f.re dualF)).2.2.size ≤ 1048576 from hds) n _ _ w3 HDG.out hn3 with ⟨rfl, hc⟩ | ⟨rfl, hc⟩
  all_goals (
    have HCA := Lib.hid hc
    clear hc hn3
    go_wp2_with fail
    refine HCA.out.mono ?_
    rintro e w4 ⟨⟨a4, c4, rfl, ho4⟩, hb4⟩
    have hw3 : w.heap.size + 1 < w3.heap.size := HY.out.lt
    have hy4 := HY.out.step hb4
    have y0 := hy4.g0
    have y1 := hy4.g1
    have y2 := hy4.g2
    have f0 := hy4.gf 0
    have f1 := hy4.gf 1
    have f2 := hy4.gf 2
    have yl := hy4.lt
    have HB4 := Lib.hid (HB.out.trans (hb4.mono HB.out.size))
    have HO4 := Lib.hid ho4
    clear ho4 hb4 hy4
    go_wp2_with fail
    refine bodyPost_ret (v := .tuple #[.agg #[.int .i64 (dualF h l (f.re dualF)).1, .int .i64 (dualF h l (f.re dualF)).2.1, .slice a4 (f.re dualF).len c4], .int .i64 0]) (by simp [results, Try.results11, go_sem, y0, y1, y2, dualF]) rfl ⟨⟨a4, c4, by rw [HC.out.1, HC.out.2.1, HC.out.2.2.1, HC.out.2.2.2], ?_⟩, ?_⟩
    · rw [HC.out.2.2.2]
      exact OG.mono (HO4.out.touch (((touch_put (w.heap.size + 1) 0 _ w4 (Nat.le_refl _) (Nat.lt_succ_self _)).trans (touch_put (w.heap.size + 1) 1 _ _ (Nat.le_refl _) (Nat.lt_succ_self _))).trans (touch_put (w.heap.size + 1) 2 _ _ (Nat.le_refl _) (Nat.lt_succ_self _))) (.inr (by omega))) (by omega) (by simp)
    · exact ((HB4.out.setCell (p := ⟨w.heap.size + 1, 0, none⟩) (Nat.le_succ _) _).setCell (p := ⟨w.heap.size + 1, 1, none⟩) (Nat.le_succ _) _).setCell (p := ⟨w.heap.size + 1, 2, none⟩) (Nat.le_succ _) _)
end Go.Proofs.Ytjhggglaglpgfaa

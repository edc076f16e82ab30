/- LeavesOf of the program and of the model: what they give. -/
import Derived.Test.YtikccnimlgdcnaaLv
namespace Go.Proofs.Ytikccnimlgdcnaa
open Go.RowKit Go.Deep
set_option linter.unusedVariables false

def leafList (n : Nat) (h : Int) (f : Fo) : List Int := (List.range n).map fun j => (Fo.gleaves j h f : Int)
theorem leafList_len (n : Nat) (h : Int) (f : Fo) : (leafList n h f).length = n := by simp [leafList]
theorem leafList_nth {n : Nat} (h : Int) (f : Fo) {j : Nat} (hj : j < n) : nth (leafList n h f) j = (Fo.gleaves j h f : Int) := by
  rw [nth_lt (by rw [leafList_len]; exact hj)]; simp [leafList]
noncomputable def loList (n h l : Int) (f : Fo) : List Int := if tell (GateOk n h l f) = true then leafList n.toNat h f else []
noncomputable def loCode (n h l : Int) (f : Fo) : Int := if tell (GateOk n h l f) = true then 0 else 1
theorem lo_len (n h l : Int) (f : Fo) : (loList n h l f).length ≤ 1048576 := by
  unfold loList
  split
  · next q => rw [leafList_len]; have := of_tell q; have := this.2.1; omega
  · simp
theorem lo_bad {n h l : Int} {f : Fo} (q : ¬ GateOk n h l f) : loCode n h l f = 1 ∧ loList n h l f = [] := by unfold loCode loList; rw [tell_false q]; exact ⟨rfl, rfl⟩
theorem lo_yes {n : Nat} {h l : Int} {f : Fo} (q : GateOk n h l f) : loCode n h l f = 0 ∧ loList n h l f = leafList n h f := by unfold loCode loList; rw [tell_true q]; exact ⟨rfl, by simp⟩

set_option maxRecDepth 100000 in
set_option maxHeartbeats 2000000 in
theorem specLo_any (f : Fo) (hf : f.size ≤ 1048576) (B : Nat) (n h l : Int) (a : Option Addr) (c : Nat) (w : World) (hk : Kids w B a f) :
    Calls Try.prog 15 #[.int .i64 n, .agg #[.int .i64 h, .int .i64 l, .slice a f.len c]] w (GivesIntsCode w (loList n h l f) (loCode n h l f)) := by
  have hb := (Below.refl w.heap.size w).alloc (Nat.le_refl _) (.cells #[.int .i64 h, .int .i64 l, .slice a f.len c] 29)
  have hx : Boxes (w.alloc (.cells #[.int .i64 h, .int .i64 l, .slice a f.len c] 29)) w.heap.size 29 #[.int .i64 h, .int .i64 l, .slice a f.len c] := World.alloc_heap_new _ _
  have HK := Lib.hid (hk.step hb)
  have HB := Lib.hid hb
  have HX := Lib.hid hx
  clear hk hb hx
  by_cases q : GateOk n h l f
  case neg =>
    have HC := Lib.hid (lo_bad q)
    have HT := Lib.hid (tell_false q)
    clear q
    go_enter Try.func15, Try.ntmps15
    go_wp2_with fail
    refine (l02Ok_any f hf B w.heap.size 0 n h l a c _ HX.out.g0 HX.out.g1 HX.out.g2 HK.out).mono ?_
    generalize w.alloc (.cells #[.int .i64 h, .int .i64 l, .slice a f.len c] 29) = w1 at *
    rintro e w2 ⟨rfl, hq⟩
    have HB2 := Lib.hid (HB.out.trans ((quiet_below hq).mono HB.out.size))
    rw [HT.out]
    clear hq
    go_wp2_with fail
    go_ret2
    refine ⟨⟨_, by rw [HC.out.1]; rfl, ?_⟩, HB2.out.alloc HB2.out.size _⟩
    rw [HC.out.2]
    exact World.ownsRow_made w2 #[] 0 HB2.out.size (by unfold maxLen; omega) rfl
  obtain ⟨n, rfl⟩ : ∃ k : Nat, n = (k : Int) := ⟨n.toNat, by have := q.1; omega⟩
  have hn7 : n ≤ 7 := by have := q.2.1; omega
  have hn0 : (0 : Int) ≤ (n : Int) := by omega
  have HC := Lib.hid (lo_yes q)
  have HT := Lib.hid (tell_true q)
  have HQ := Lib.hid q
  clear q
  go_enter Try.func15, Try.ntmps15
  go_wp2_with fail
  refine (l02Ok_any f hf B w.heap.size 0 n h l a c _ HX.out.g0 HX.out.g1 HX.out.g2 HK.out).mono ?_
  have hws : w.heap.size < (w.alloc (.cells #[.int .i64 h, .int .i64 l, .slice a f.len c] 29)).heap.size := by simp
  generalize w.alloc (.cells #[.int .i64 h, .int .i64 l, .slice a f.len c] 29) = w1 at *
  rintro e w2 ⟨rfl, hq⟩
  have hb2 := quiet_below hq
  have HB2 := Lib.hid (HB.out.trans (hb2.mono HB.out.size))
  have HX2 := Lib.hid (HX.out.step hb2)
  have HK2 := Lib.hid (HK.out.step hb2)
  have hw2 : w.heap.size < w2.heap.size := by have := hb2.size; omega
  rw [HT.out]
  clear hq hb2
  have hmk := run_make_row' (P := Try.prog) 33 2 (.int .i64 0) 8 Try.underlying33 Try.infoInt64 rfl .i64 .i64 n (by omega) (by omega)
  go_wp2_with fail
  have hr0 := World.rowIs_made w2 (.int .i64 0) n 2
  have hB0 := (Below.refl w2.heap.size w2).alloc (Nat.le_refl _) (.cells (madeCells #[.int .i64 0] n) 2)
  have HX3 := Lib.hid (HX2.out.step hB0)
  have HQ3 := Lib.hid (KidsQ.touch (Touch.of_below w2.heap.size (w2.heap.size + 1) hB0) (fun b hb => .inl hb) HK2.out.kidsQ)
  have HB3 := Lib.hid (HB2.out.trans (hB0.mono HB2.out.size))
  have HR0 := Lib.hid (hr0.congr (g := fun i => .int .i64 ((fun _ : Nat => (0 : Int)) i)) (fun i _ => rfl))
  have hs3 : (w2.alloc (.cells (madeCells #[.int .i64 0] n) 2)).heap.size = w2.heap.size + 1 := by simp
  generalize w2.alloc (.cells (madeCells #[.int .i64 0] n) 2) = w3 at *
  generalize hcb : w2.heap.size = cb at *
  clear hmk hr0 hB0
  refine (l02Leaves_any 1048577 f (by omega) (Nat.le_refl _) (· < cb) w.heap.size 0 cb n h l a c n (fun _ => 0) w3 hn7 HQ.out.2.2.2.2 HX3.out.g0 HX3.out.g2 (by omega) (fun b hb => Nat.ne_of_lt hb) HQ3.out HR0.out (fun i => ⟨Int.le_refl _, by omega⟩)).mono ?_
  rintro e w4 ⟨rfl, hr4, ht4⟩
  have HB4 := Lib.hid (HB3.out.trans (ht4.below (B := w.heap.size) (by omega) (by omega)))
  have HR4 := Lib.hid (own_of_row (zs := leafList n h f) (by rw [leafList_len]; exact hr4.congr (fun i hi => by rw [leafList_nth h f hi]; simp)) (by rw [leafList_len]; unfold maxLen; omega))
  clear hr4 ht4
  go_wp2_with fail
  go_ret2
  refine ⟨⟨_, by rw [HC.out.1]; rfl, ?_⟩, HB4.out⟩
  rw [HC.out.2]
  have := HR4.out
  rw [leafList_len] at this
  exact this.mono (by omega)

set_option maxRecDepth 100000 in
set_option maxHeartbeats 2000000 in
theorem implLo_any (f : Fo) (hf : f.size ≤ 1048576) (B : Nat) (n h l : Int) (a : Option Addr) (c : Nat) (w : World) (hk : Kids w B a f) :
    Calls Try.prog 16 #[.int .i64 n, .agg #[.int .i64 h, .int .i64 l, .slice a f.len c]] w (GivesIntsCode w (loList n h l f) (loCode n h l f)) := by
  have hb := (Below.refl w.heap.size w).alloc (Nat.le_refl _) (.cells #[.int .i64 h, .int .i64 l, .slice a f.len c] 29)
  have hx : Boxes (w.alloc (.cells #[.int .i64 h, .int .i64 l, .slice a f.len c] 29)) w.heap.size 29 #[.int .i64 h, .int .i64 l, .slice a f.len c] := World.alloc_heap_new _ _
  have HK := Lib.hid (hk.step hb)
  have HB := Lib.hid hb
  have HX := Lib.hid hx
  clear hk hb hx
  go_enter Try.func16, Try.ntmps16
  go_wp2_with fail
  refine (nodeOf_any f hf B n h l a c _ HK.out).mono ?_
  generalize w.alloc (.cells #[.int .i64 h, .int .i64 l, .slice a f.len c] 29) = w1 at *
  rintro e w2 ⟨hv, hb2⟩
  have HB2 := Lib.hid (HB.out.trans (hb2.mono HB.out.size))
  clear hb2
  rcases hv with ⟨hq, t, x, rfl, hnv⟩ | ⟨hq, rfl⟩
  case inr =>
    have HC := Lib.hid (lo_bad hq)
    clear hq
    go_wp2_with fail
    go_ret2
    exact ⟨⟨_, by rw [HC.out.1]; rfl, by rw [HC.out.2]; exact OwnI.nil _ _⟩, HB2.out⟩
  obtain ⟨n, rfl⟩ : ∃ k : Nat, n = (k : Int) := ⟨n.toNat, by have := hq.1; omega⟩
  have hn7 : n ≤ 7 := by have := hq.2.1; omega
  have hn0 : (0 : Int) ≤ (n : Int) := by omega
  have HC := Lib.hid (lo_yes hq)
  have HQ := Lib.hid hq
  have HNV := Lib.hid (show NV w2 (· < w2.heap.size) h l f (.iface t x) from hnv.map fun b o v _ hc => ⟨show (⟨b, o, none⟩ : Addr).block < w2.heap.size from World.block_lt_of_cell? _ _ hc, hc⟩)
  clear hq hnv
  have hmk := run_make_row' (P := Try.prog) 33 2 (.int .i64 0) 8 Try.underlying33 Try.infoInt64 rfl .i64 .i64 n (by omega) (by omega)
  go_wp2_with fail
  have hr0 := World.rowIs_made w2 (.int .i64 0) n 2
  have hB0 := (Below.refl w2.heap.size w2).alloc (Nat.le_refl _) (.cells (madeCells #[.int .i64 0] n) 2)
  have HN3 := Lib.hid (HNV.out.step hB0)
  have HB3 := Lib.hid (HB2.out.trans (hB0.mono HB2.out.size))
  have HR0 := Lib.hid (hr0.congr (g := fun i => .int .i64 ((fun _ : Nat => (0 : Int)) i)) (fun i _ => rfl))
  have hs3 : (w2.alloc (.cells (madeCells #[.int .i64 0] n) 2)).heap.size = w2.heap.size + 1 := by simp
  have hw2 := HB2.out.size
  generalize w2.alloc (.cells (madeCells #[.int .i64 0] n) 2) = w3 at *
  generalize hcb : w2.heap.size = cb at *
  clear hmk hr0 hB0
  refine (countLeaves_any 1048577 f (by omega) (Nat.le_refl _) (· < cb) cb n h l n (fun _ => 0) t x w3 hn7 HQ.out.2.2.2.2 (fun b hb => Nat.ne_of_lt hb) HN3.out HR0.out (fun i => ⟨Int.le_refl _, by omega⟩)).mono ?_
  rintro e w4 ⟨rfl, hr4, ht4⟩
  have HB4 := Lib.hid (HB3.out.trans (ht4.below (B := w.heap.size) (by omega) (by omega)))
  have HR4 := Lib.hid (own_of_row (zs := leafList n h f) (by rw [leafList_len]; exact hr4.congr (fun i hi => by rw [leafList_nth h f hi]; simp)) (by rw [leafList_len]; unfold maxLen; omega))
  clear hr4 ht4
  go_wp2_with fail
  go_ret2
  refine ⟨⟨_, by rw [HC.out.1]; rfl, ?_⟩, HB4.out⟩
  rw [HC.out.2]
  have := HR4.out
  rw [leafList_len] at this
  exact this.mono (by omega)
end Go.Proofs.Ytikccnimlgdcnaa

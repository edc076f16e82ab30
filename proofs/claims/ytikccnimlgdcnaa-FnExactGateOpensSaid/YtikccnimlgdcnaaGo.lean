/- GateOpens, the program's and the model's. -/
import Derived.Test.YtikccnimlgdcnaaOp
namespace Go.Proofs.Ytikccnimlgdcnaa
open Go.RowKit Go.Deep
set_option linter.unusedVariables false

noncomputable def goCode (n h l : Int) (f : Fo) (zs : List Int) : Int := if tell (GateOk n h l f) = true then (if tell (IsGrp n zs) = true then 0 else 2) else 1
noncomputable def goYes (n h l : Int) (f : Fo) (zs : List Int) : Bool := if tell (GateOk n h l f) = true then (if tell (IsGrp n zs) = true then Fo.gopen (bitsOf zs) h l f else false) else false
theorem go_bad {n h l : Int} {f : Fo} {zs : List Int} (q : ¬ GateOk n h l f) : goCode n h l f zs = 1 ∧ goYes n h l f zs = false := by unfold goCode goYes; rw [tell_false q]; exact ⟨rfl, rfl⟩
theorem go_no {n h l : Int} {f : Fo} {zs : List Int} (q : GateOk n h l f) (q2 : ¬ IsGrp n zs) : goCode n h l f zs = 2 ∧ goYes n h l f zs = false := by unfold goCode goYes; rw [tell_true q, tell_false q2]; exact ⟨rfl, rfl⟩
theorem go_yes {n h l : Int} {f : Fo} {zs : List Int} (q : GateOk n h l f) (q2 : IsGrp n zs) : goCode n h l f zs = 0 ∧ goYes n h l f zs = Fo.gopen (bitsOf zs) h l f := by unfold goCode goYes; rw [tell_true q, tell_true q2]; exact ⟨rfl, rfl⟩
/-- What tells whether a gate is open. -/
structure GivesBC (W : World) (y : Bool) (code : Int) (e : Ending) (w' : World) : Prop where
  val : e = .returned (.tuple #[.bool y, .int .i64 code])
  below : Below W.heap.size W w'

set_option maxRecDepth 100000 in
set_option maxHeartbeats 2000000 in
theorem specGo_any (f : Fo) (hf : f.size ≤ 1048576) (B : Nat) (n h l : Int) (a : Option Addr) (c : Nat) (ar : Option Addr) (zs : List Int) (cr : Nat) (w : World) (hk : Kids w B a f) (hi : Ints w ar zs) (hl : zs.length ≤ 9223372036854775807) :
    Calls Try.prog 11 #[.int .i64 n, .agg #[.int .i64 h, .int .i64 l, .slice a f.len c], .slice ar zs.length cr] w (GivesBC w (goYes n h l f zs) (goCode n h l f zs)) := by
  have hb := (Below.refl w.heap.size w).alloc (Nat.le_refl _) (.cells #[.int .i64 h, .int .i64 l, .slice a f.len c] 29)
  have hx : Boxes (w.alloc (.cells #[.int .i64 h, .int .i64 l, .slice a f.len c] 29)) w.heap.size 29 #[.int .i64 h, .int .i64 l, .slice a f.len c] := World.alloc_heap_new _ _
  have HK := Lib.hid (hk.step hb)
  have HI := Lib.hid (Ints.step hb hi)
  have HB := Lib.hid hb
  have HX := Lib.hid hx
  clear hk hb hx hi
  go_enter Try.func11, Try.ntmps11
  go_wp2_with fail
  refine (l02Ok_any f hf B w.heap.size 0 n h l a c _ HX.out.g0 HX.out.g1 HX.out.g2 HK.out).mono ?_
  generalize w.alloc (.cells #[.int .i64 h, .int .i64 l, .slice a f.len c] 29) = w1 at *
  rintro e w2 ⟨rfl, hq⟩
  have hb2 := quiet_below hq
  have HB2 := Lib.hid (HB.out.trans (hb2.mono HB.out.size))
  have HK2 := Lib.hid (HK.out.step hb2)
  have HI2 := Lib.hid (Ints.step hb2 HI.out)
  have HX2 := Lib.hid (HX.out.step hb2)
  clear hb2 hq
  rcases Classical.em (GateOk n h l f) with q | q
  case inr =>
    have HC := Lib.hid (go_bad (zs := zs) q)
    rw [tell_false q]
    clear q
    go_wp2_with fail
    go_ret2
    exact ⟨by rw [HC.out.1, HC.out.2]; rfl, HB2.out⟩
  have HQ := Lib.hid q
  have hn1 := q.1
  have hn7 := q.2.1
  rw [tell_true q]
  clear q
  go_wp2_with fail
  refine (l01Group_any ar zs cr n _ HI2.out hl (by omega) (by omega)).mono ?_
  rintro e w3 ⟨rfl, hq⟩
  have hb3 := quiet_below hq
  have HB3 := Lib.hid (HB2.out.trans (hb3.mono HB2.out.size))
  have HK3 := Lib.hid (HK2.out.step hb3)
  have HI3 := Lib.hid (Ints.step hb3 HI2.out)
  have HX3 := Lib.hid (HX2.out.step hb3)
  clear hb3 hq
  rcases Classical.em (IsGrp n zs) with q | q
  case inr =>
    have HC := Lib.hid (go_no HQ.out q)
    rw [tell_false q]
    clear q
    go_wp2_with fail
    go_ret2
    exact ⟨by rw [HC.out.1, HC.out.2]; rfl, HB3.out⟩
  have HC := Lib.hid (go_yes HQ.out q)
  have HG := Lib.hid q
  rw [tell_true q]
  clear q
  go_wp2_with fail
  refine (l01Bits_any ar zs cr n _ HI3.out HG.out hn7 hl).mono ?_
  rintro e w4 ⟨rfl, rfl⟩
  have hx8 := bitsOf_lt HG.out hn7
  generalize bitsOf zs = x at *
  go_wp2_with fail
  refine (l02Open_any 1048577 f (by omega) (Nat.le_refl _) B w.heap.size 0 n h l a c x _ hx8 hn7 HQ.out.2.2.2.2 HX3.out.g0 HX3.out.g1 HX3.out.g2 HK3.out).mono ?_
  rintro e w4 ⟨rfl, rfl⟩
  go_wp2_with fail
  go_ret2
  exact ⟨by rw [HC.out.1, HC.out.2]; rfl, HB3.out⟩

/-- A node opens, or not. -/
theorem nodeOpens (f : Fo) (hf : f.size ≤ 1048576) (n h l : Int) (x : Nat) (w : World) (hx : x < 128) (hn : n ≤ 7) (hg : Fo.gform n h l f) {ok : Nat → Prop} {t : TypeId} {v : Value} (hv : NV w ok h l f (.iface t v)) :
    (t = 72 ∧ f = .nil ∧ v = .agg #[.int .i64 h] ∧ Calls Try.prog 61 #[v, .int .u64 x] w fun e w' => e = .returned (.bool (Fo.gopen x h l f)) ∧ Below w.heap.size w w') ∨
    (t = 75 ∧ (∃ a c, v = .agg #[.int .i64 l, .slice a f.len c]) ∧ Calls Try.prog 66 #[v, .int .u64 x] w fun e w' => e = .returned (.bool (Fo.gopen x h l f)) ∧ Below w.heap.size w w') := by
  rcases hv with ⟨rfl, e⟩ | ⟨hne, b', o', c, e, hb', h4⟩
  · cases e
    obtain ⟨g0, g1, g2⟩ := gform_nil.1 hg
    exact .inl ⟨rfl, rfl, rfl, leafOpens_any h x w hx g1 (by omega)⟩
  · cases e
    have hkp : 0 < f.len := by
      cases f with
      | nil => exact absurd rfl hne
      | cons => exact Nat.succ_pos _
    refine .inr ⟨rfl, ⟨_, _, rfl⟩, ?_⟩
    rw [Fo.gopen_some x h l hkp]
    exact thrOpens_any 1048577 f (by omega) (Nat.le_refl _) ok b' o' n l c x w hx hn hkp ((gform_some hkp).1 hg).2.2.2 hb' h4

set_option maxRecDepth 100000 in
set_option maxHeartbeats 2000000 in
theorem implGo_any (f : Fo) (hf : f.size ≤ 1048576) (B : Nat) (n h l : Int) (a : Option Addr) (c : Nat) (ar : Option Addr) (zs : List Int) (cr : Nat) (w : World) (hk : Kids w B a f) (hi : Ints w ar zs) (hl : zs.length ≤ 9223372036854775807) :
    Calls Try.prog 13 #[.int .i64 n, .agg #[.int .i64 h, .int .i64 l, .slice a f.len c], .slice ar zs.length cr] w (GivesBC w (goYes n h l f zs) (goCode n h l f zs)) := by
  have hb := (Below.refl w.heap.size w).alloc (Nat.le_refl _) (.cells #[.int .i64 h, .int .i64 l, .slice a f.len c] 29)
  have hx : Boxes (w.alloc (.cells #[.int .i64 h, .int .i64 l, .slice a f.len c] 29)) w.heap.size 29 #[.int .i64 h, .int .i64 l, .slice a f.len c] := World.alloc_heap_new _ _
  have HK := Lib.hid (hk.step hb)
  have HI := Lib.hid (Ints.step hb hi)
  have HB := Lib.hid hb
  have HX := Lib.hid hx
  clear hk hb hx hi
  go_enter Try.func13, Try.ntmps13
  go_wp2_with fail
  refine (nodeOf_any f hf B n h l a c _ HK.out).mono ?_
  generalize w.alloc (.cells #[.int .i64 h, .int .i64 l, .slice a f.len c] 29) = w1 at *
  rintro e w2 ⟨hv, hb2⟩
  have HB2 := Lib.hid (HB.out.trans (hb2.mono HB.out.size))
  have HI2 := Lib.hid (Ints.step hb2 HI.out)
  clear hb2
  rcases hv with ⟨hq, t, x, rfl, hnv⟩ | ⟨hq, rfl⟩
  case inr =>
    have HC := Lib.hid (go_bad (zs := zs) hq)
    clear hq
    go_wp2_with fail
    go_ret2
    exact ⟨by rw [HC.out.1, HC.out.2]; rfl, HB2.out⟩
  have HQ := Lib.hid hq
  have HNV := Lib.hid hnv
  have hn7 := hq.2.1
  clear hq hnv
  go_wp2_with fail
  refine (setOf_any ar zs cr n _ HI2.out hn7 hl).mono ?_
  rintro e w3 ⟨rfl, rfl⟩
  rcases Classical.em (IsGrp n zs) with q | q
  case inr =>
    have HC := Lib.hid (go_no HQ.out q)
    rw [show setVal n zs = .tuple #[.int .u64 0, .bool false] by unfold setVal; rw [tell_false q]; rfl]
    clear q
    go_wp2_with fail
    go_ret2
    exact ⟨by rw [HC.out.1, HC.out.2]; rfl, HB2.out⟩
  have HC := Lib.hid (go_yes HQ.out q)
  have hx8 := bitsOf_lt q hn7
  rw [show setVal n zs = .tuple #[.int .u64 ((bitsOf zs : Nat) : Int), .bool true] by unfold setVal; rw [tell_true q]; rfl]
  clear q
  generalize bitsOf zs = y at *
  rcases nodeOpens f hf n h l y w2 hx8 hn7 HQ.out.2.2.2.2 HNV.out with ⟨rfl, rfl, rfl, hc⟩ | ⟨rfl, ⟨a', c', rfl⟩, hc⟩
  all_goals (
    have HCA := Lib.hid hc
    clear hc
    go_wp2_with fail
    refine HCA.out.mono ?_
    rintro e w4 ⟨rfl, hb4⟩
    have HB4 := Lib.hid (HB2.out.trans (hb4.mono HB2.out.size))
    clear hb4
    go_wp2_with fail
    go_ret2
    exact ⟨by rw [HC.out.1, HC.out.2]; rfl, HB4.out⟩)
end Go.Proofs.Ytikccnimlgdcnaa

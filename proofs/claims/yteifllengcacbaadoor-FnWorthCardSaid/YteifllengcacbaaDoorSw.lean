/- The groups that are chosen: setsWhere, for any chooser. -/
import Derived.Test.YteifllengcacbaaDoorGwA
namespace Go.Proofs.YteifllengcacbaaDoor
open Go.RowKit Go.Deep Go.Shelf
set_option linter.unusedVariables false
attribute [local go_sem] Oper.semAt_some

def pickN (p : Nat → Bool) (pre : List G7) : List Nat := (pre.filter fun g => p g.val).map fun g => g.val
theorem pickN_len (p : Nat → Bool) (pre : List G7) : (pickN p pre).length ≤ pre.length := by
  unfold pickN; rw [List.length_map]; exact List.length_filter_le _ _
theorem pickN_hit {p : Nat → Bool} (pre : List G7) (x : G7) (h : p x.val = true) : pickN p (pre ++ [x]) = pickN p pre ++ [x.val] := by simp [pickN, h]
theorem pickN_miss {p : Nat → Bool} (pre : List G7) (x : G7) (h : p x.val = false) : pickN p (pre ++ [x]) = pickN p pre := by simp [pickN, h]
theorem setVals_snoc (l : List Nat) (x : Nat) : setVals (l ++ [x]) = setVals l ++ [.int .u64 ((x : Nat) : Int)] := by simp [setVals]

/-- What gives a slice of sets of its own. -/
structure GivesSets (W : World) (xs : List Nat) (e : Ending) (w' : World) : Prop where
  val : ∃ v, e = .returned v ∧ w'.ownsRow W.heap.size 60 1 v xs.length (setVals xs)
  below : Below W.heap.size W w'

structure CollS (w : World) (fv : Value) (xs : List Nat) (W : World) : Prop where
  bel : Below w.heap.size w W
  op : Boxed W w.heap.size 63 fv
  box : ∃ v, Boxed W (w.heap.size + 1) 81 v ∧ W.ownsRow w.heap.size 60 1 v xs.length (setVals xs)

theorem CollS.ownF {w : World} {fv : Value} {f : List G7 → List Nat} {B : Nat} (hB : w.heap.size ≤ B) : OwnFrom B (fun pre W => CollS w fv (f pre) W) := by
  intro pre W W' row hs hg hr
  have hr' : ∀ r, row = some r → ∃ o : Obj, W.heap[r]? = some o ∧ o.isCells = false := fun r e => (hr r e).2
  obtain ⟨v, hbx, hrow⟩ := hs.box
  exact ⟨hs.bel.grown hg hs.bel.size (fun k hk => Nat.le_trans hB (hr k hk).1), Boxed.free hs.op hg hr', v, Boxed.free hbx hg hr', row_free hrow hg hr'⟩

theorem CollS.init (w : World) (fv u : Value) (t : TypeId) :
    CollS w fv [] (((w.alloc (Obj.cells #[fv] 63)).alloc (Obj.cells #[Value.slice none 0 0] 81)).alloc (Obj.cells #[u] t)) := by
  refine ⟨((((Below.refl _ w).alloc (Nat.le_refl _) _).alloc (by simp) _).alloc (by simp <;> omega) _), ((Boxed.new w _ fv).alloc _).alloc _, .slice none 0 0, ?_, World.ownsRow_nil _ _ _ _⟩
  have := (Boxed.new (w.alloc (Obj.cells #[fv] 63)) 81 (Value.slice none 0 0)).alloc (Obj.cells #[u] t)
  simpa only [World.size_alloc] using this

/-- What a chooser does, wherever it is called. -/
structure Chooses (w : World) (fid : FuncId) (l r : Array Value) (p : Nat → Bool) : Prop where
  enters : ∀ args w, (callFunc fid args).run Tryd.prog w = .ok (.enter fid args) w
  calls : ∀ (x : G7) (W : World), Below w.heap.size w W → Calls Tryd.prog fid (l.push (.int .u64 (x.val : Int)) ++ r) W fun e W' => e = .returned (.bool (p x.val)) ∧ Below W.heap.size W W'

set_option maxRecDepth 100000 in
set_option maxHeartbeats 2000000 in
theorem setsWhere_any (h : Nat) (fid : FuncId) (cl cr : Array Value) (p : Nat → Bool) (w : World) (h1 : 1 ≤ h) (h7 : h ≤ 7) (hC : Chooses w fid cl cr p) :
    Calls Tryd.prog 77 #[.int .i64 (h : Nat), .func (.func fid) cl cr] w (GivesSets w (pickN p (lexAll h))) := by
  have hE := hC.enters
  have HC := Lib.hid hC.calls
  clear hC
  refine (callsIn_wide (n := 9)).1 ?_
  have hdd : ∀ k : Nat, (Fence.wide.depth.isSome = true → 1 ≤ k) := fun k h => by cases h
  obtain ⟨i0, hi, hz0, hz1, hz2⟩ := info_parts Tryd.infoSet
  refine callsIn_of_wp_marks Tryd.func77 rfl trivial ?_ rfl
  simp only [Tryd.ntmps77, List.size_toArray, List.length_cons, List.length_nil, Nat.reduceAdd, Nat.reduceSub, Array.replicate_succ, Array.replicate_zero, List.push_toArray, List.append_toArray, List.nil_append, List.cons_append]
  gi_wp2_with (refine ⟨trivial, ?_⟩; gi_at_call 69; refine (callsIn_wide.2 (groupsOf_any _ _)).mono ?_; rintro e w' ⟨rfl, rfl⟩)
  have hinv0 := CollS.init w (.func (.func fid) cl cr) (.int .i64 (h : Nat)) 2
  have hbox : (((w.alloc (Obj.cells #[.func (.func fid) cl cr] 63)).alloc (Obj.cells #[Value.slice none 0 0] 81)).alloc (Obj.cells #[.int .i64 (h : Nat)] 2)).cell? ⟨w.heap.size + 1 + 1, 0, none⟩ = some (.int .i64 (h : Nat)) := by
    simp [go_sem]
  have hsz : (((w.alloc (Obj.cells #[.func (.func fid) cl cr] 63)).alloc (Obj.cells #[Value.slice none 0 0] 81)).alloc (Obj.cells #[.int .i64 (h : Nat)] 2)).heap.size = w.heap.size + 3 := by
    simp
  generalize (((w.alloc (Obj.cells #[.func (.func fid) cl cr] 63)).alloc (Obj.cells #[Value.slice none 0 0] 81)).alloc (Obj.cells #[.int .i64 (h : Nat)] 2)) = w0 at hinv0 hbox hsz ⊢
  refine wpIn_rangeFunc_ownG rfl (by decide) (gf := 87) (lb := #[.pointer (some ⟨w.heap.size + 1 + 1, 0, none⟩)]) rfl trivial (enters_of Tryd.func87 (by kernel_rfl) rfl)
    (groups_stops 8 h (w.heap.size + 1 + 1) w0 h7 (by omega) hbox) (fun _ _ => trivial) (fun _ _ _ _ _ _ _ _ => trivial) (Below.refl _ _) (fun _ => rfl)
    (fun pre W => CollS w (.func (.func fid) cl cr) (pickN p pre) W)
    (fun _ _ _ => False)
    (CollS.ownF (by omega))
    (fun _ _ _ _ _ hs _ _ => hs)
    hinv0
    (fun x => { tmps := #[.int .i64 (h : Nat), .func (.func fid) cl cr, undef, .pointer (some ⟨w.heap.size, 0, none⟩), .slice none 0 0, .pointer (some ⟨w.heap.size + 1, 0, none⟩), .int .u64 (x.val : Int), .int .i64 (h : Nat), .func (.func 87) #[] #[.pointer (some ⟨w.heap.size + 1 + 1, 0, none⟩)], .int .u64 (x.val : Int), undef, undef, undef, undef, undef, undef, undef, undef], defers := [] }) ?assign ?body ?done ?stop
  case assign =>
    intro l x W K hK
    dsimp only [encG]
    gi_wp2
    exact hK
  case body =>
    intro l pre x W hI hlt
    have hx := x.isLt
    have hlen : (pickN p pre).length < 128 := Nat.lt_of_le_of_lt (pickN_len _ _) (Nat.lt_of_lt_of_le hlt (lexAll_len h7))
    have HI := Lib.hid hI
    obtain ⟨v, hbx, hrow⟩ := hI.box
    have HCX := Lib.hid (HC.out x W hI.bel)
    have hbw := hI.bel.size
    have po := hI.op.cell
    have HBX := Lib.hid hbx
    have HROW := Lib.hid hrow
    clear hI hbx hrow hinv0 hbox hsz
    cases hq : p x.val with
    | true =>
      have HQ := Lib.hid hq
      clear hq
      gi_wp2_with (first
        | (refine ⟨trivial, ?_⟩; refine (CallsIn.inRound l (callsIn_wide.2 HCX.out)).mono ?_; rintro e w' ⟨rfl, hb⟩; rw [HQ.out]; have HBX' := Lib.hid (show Boxed w' (w.heap.size + 1) 81 v from (hb.block _ (Boxed.lt HBX.out)).trans HBX.out); have HOP' := Lib.hid (show Boxed w' w.heap.size 63 (.func (.func fid) cl cr) from (hb.block _ (Boxed.lt HI.out.op)).trans HI.out.op); have HROW' := Lib.hid (row_step HROW.out hb); have hsz' := Nat.le_trans hbw hb.size; have p0 := Boxed.cell HBX'.out; have HB := Lib.hid hb; clear hb po)
        | (gi_at_builtin; refine wpListIn_append_own _ rfl _ _ 81 rfl w.heap.size 60 i0 (.int .u64 0) 1 8 Tryd.underlying81 hi hz0 hz1 hz2 rfl (by decide) _ _ _ rfl (World.ownsRow.alloc HROW'.out _) ⟨w'.heap.size, 0, none⟩ 1 1 [.int .u64 (x.val : Int)] rfl rfl (cell_one_new _ _ _) (by simp [Value.oneCell']) (by unfold maxLen; omega) (by omega) (by simp; omega) ?_; intro v' w1 hown' hgrow _; obtain ⟨g', cap', rfl⟩ := ownsRow_succ hown'; obtain ⟨hv1, hv2, hr2, hk2, hb2⟩ := HBX'.out.appended (by decide) HROW'.out hsz' (by omega) hown' hgrow; have hc1 := hv1.cell; have hf1 := hv1.frozen; have H1 := Lib.hid hv2; have H2 := Lib.hid hr2; have H3 := Lib.hid hk2; have H4 := Lib.hid hb2; have H5 := Lib.hid hgrow; have H6 := Lib.hid hown'; clear hv2 hr2 hk2 hb2 hgrow hown'))
      refine ⟨((keepsBelow HB.out).trans H3.out).from _, trivial, ?_⟩
      refine ⟨HI.out.bel.trans ((HB.out.mono hbw).trans H4.out), ?_, _, H1.out, ?_⟩
      · have a1 := (HOP'.out.alloc (.cells #[.int .u64 (x.val : Int)] 60)).kept H5.out (HOP'.out.not_row (by decide) HROW'.out)
        exact a1.kept (grownBy_setCell' _ _ _) (by simp)
      · (try dsimp only); rw [pickN_hit _ _ HQ.out, setVals_snoc, List.length_append]; exact H2.out
    | false =>
      have HQ := Lib.hid hq
      clear hq
      gi_wp2_with (refine ⟨trivial, ?_⟩; refine (CallsIn.inRound l (callsIn_wide.2 HCX.out)).mono ?_; rintro e w' ⟨rfl, hb⟩; rw [HQ.out]; have HB := Lib.hid hb; clear hb)
      refine ⟨(keepsBelow HB.out).from _, trivial, ?_⟩
      (try dsimp only); rw [pickN_miss _ _ HQ.out]
      exact ⟨HI.out.bel.trans (HB.out.mono hbw), (HB.out.block _ (Boxed.lt HI.out.op)).trans HI.out.op, v, (HB.out.block _ (Boxed.lt HBX.out)).trans HBX.out, row_step HROW.out HB.out⟩
  case done =>
    rintro D ys W hD rfl hI hK
    obtain ⟨v, hbx, hrow⟩ := hI.box
    have p0 := hbx.cell
    have hbel := hI.bel
    clear hI
    gi_wp2
    refine ⟨by simp, .inl ⟨_, _, rfl, run_takeDeferred hK, ?_⟩⟩
    refine ⟨_, results_tmp rfl _ _ _, ⟨⟨_, rfl, ownsRow_putObj hrow _ hK rfl⟩, ?_⟩⟩
    exact hbel.grown (grownBy_putObj' _ D _) hbel.size (fun k e => by cases e; omega)
  case stop =>
    intro D c pre W _ _ hh _
    exact hh.elim
end Go.Proofs.YteifllengcacbaaDoor

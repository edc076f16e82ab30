/- The groups that are chosen: setsWhere, for any chooser. -/
import Derived.Test.YtnebkhelobpkpaaDoorGwA
namespace Go.Proofs.YtnebkhelobpkpaaDoor
open Go.RowKit Go.Deep Go.Shelf
set_option linter.unusedVariables false
attribute [local go_sem] Oper.semAt_some

def pickN (p : Nat → Bool) (pre : List G7) : List Nat := (pre.filter fun g => p g.val).map fun g => g.val
theorem pickN_len (p : Nat → Bool) (pre : List G7) : (pickN p pre).length ≤ pre.length := by
  unfold pickN; rw [List.length_map]; exact List.length_filter_le _ _
theorem pickN_hit {p : Nat → Bool} (pre : List G7) (x : G7) (h : p x.val = true) : pickN p (pre ++ [x]) = pickN p pre ++ [x.val] := by simp [pickN, h]
theorem pickN_miss {p : Nat → Bool} (pre : List G7) (x : G7) (h : p x.val = false) : pickN p (pre ++ [x]) = pickN p pre := by simp [pickN, h]
theorem setVals_snoc (l : List Nat) (x : Nat) : setVals (l ++ [x]) = setVals l ++ [.int .u64 ((x : Nat) : Int)] := by simp [setVals]

/-- What gives a slice of sets of its own. -/
structure GivesSets (W : World) (xs : List Nat) (e : Ending) (w' : World) : Prop where
  val : ∃ v, e = .returned v ∧ w'.ownsRow W.heap.size 89 1 v xs.length (setVals xs)
  below : Below W.heap.size W w'

structure CollS (w : World) (fv : Value) (xs : List Nat) (W : World) : Prop where
  bel : Below w.heap.size w W
  op : Boxed W w.heap.size 132 fv
  box : ∃ v, Boxed W (w.heap.size + 1) 175 v ∧ W.ownsRow w.heap.size 89 1 v xs.length (setVals xs)

theorem CollS.ownF {w : World} {fv : Value} {f : List G7 → List Nat} {B : Nat} (hB : w.heap.size ≤ B) : OwnFrom B (fun pre W => CollS w fv (f pre) W) := by
  intro pre W W' row hs hg hr
  have hr' : ∀ r, row = some r → ∃ o : Obj, W.heap[r]? = some o ∧ o.isCells = false := fun r e => (hr r e).2
  obtain ⟨v, hbx, hrow⟩ := hs.box
  exact ⟨hs.bel.grown hg hs.bel.size (fun k hk => Nat.le_trans hB (hr k hk).1), Boxed.free hs.op hg hr', v, Boxed.free hbx hg hr', row_free hrow hg hr'⟩

theorem CollS.init (w : World) (fv u : Value) (t : TypeId) :
    CollS w fv [] (((w.alloc (Obj.cells #[fv] 132)).alloc (Obj.cells #[Value.slice none 0 0] 175)).alloc (Obj.cells #[u] t)) := by
  refine ⟨((((Below.refl _ w).alloc (Nat.le_refl _) _).alloc (by simp) _).alloc (by simp <;> omega) _), ((Boxed.new w _ fv).alloc _).alloc _, .slice none 0 0, ?_, World.ownsRow_nil _ _ _ _⟩
  have := (Boxed.new (w.alloc (Obj.cells #[fv] 132)) 175 (Value.slice none 0 0)).alloc (Obj.cells #[u] t)
  simpa only [World.size_alloc] using this

/-- What a chooser does, wherever it is called. -/
structure Chooses (w : World) (fid : FuncId) (l r : Array Value) (p : Nat → Bool) : Prop where
  enters : ∀ args w, (callFunc fid args).run Tryd.prog w = .ok (.enter fid args) w
  calls : ∀ (x : G7) (W : World), Below w.heap.size w W → Calls Tryd.prog fid (l.push (.int .u64 (x.val : Int)) ++ r) W fun e W' => e = .returned (.bool (p x.val)) ∧ Below W.heap.size W W'

end Go.Proofs.YtnebkhelobpkpaaDoor

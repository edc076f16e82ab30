/- The model's l00Own. -/
import Derived.Test.YtnebkhelobpkpaaKa
import Derived.Laws.OwnMore
namespace Go.Proofs.Ytnebkhelobpkpaa
open Go.RowKit Go.Deep Go.Joins Go.ChangeShapes Go.WideShapes Go.ChangeAt
set_option linter.unusedVariables false

theorem vals_get (zs : List Int) {j : Nat} {u : Value} (h : (vals zs)[j]? = some u) : j < zs.length ∧ u = .int .i64 (nth zs j) := by
  obtain ⟨h1, h2⟩ := List.getElem?_eq_some_iff.1 h
  have hj : j < zs.length := by simpa [vals] using h1
  refine ⟨hj, ?_⟩
  rw [← h2, nth_lt hj]
  simp [vals]
theorem run_append_none_c {P : Program} {w : World} (base : Nat) (t ty e : TypeId) (i : TypeInfo) (size : Nat) (ht : P.underlying t = some (.slice e)) (hi : P.info? e = some i)
    (v : Value) (n : Nat) (xs : List Value) (c : Nat) (hown : w.ownsRow base e size v n xs) :
    (Builtin.append_ #[t, t] ty #[v, .slice none 0 c]).run P w = .ok v w := by
  rcases hown.2 with ⟨rfl, rfl⟩ | ⟨g, cap, cur, rfl, _, _, hnc, _⟩
  · simp [Builtin.append_, run_underlying ht, sizeOf, typeInfo, hi, Builtin.lenOf, Builtin.firstCells]
  · simp [Builtin.append_, run_underlying ht, sizeOf, typeInfo, hi, Builtin.lenOf, Builtin.firstCells, hnc, storeCells]
theorem wpList_append_none_c {P : Program} {w : World} {ops : Array Oper} {rest : List Oper} {o : Oper} {a : Act} {Q : Exit → Act → World → Prop} (hgd : o.guard = none) (s x : Operand) (t : TypeId)
    (ho : o.op = .call { callee := .builtin .append, args := #[s, x], argTypes := #[t, t] })
    (base : Nat) (e : TypeId) (i : TypeInfo) (size : Nat) (ht : P.underlying t = some (.slice e)) (hi : P.info? e = some i)
    (v : Value) (n : Nat) (xs : List Value) (c : Nat) (hs : a.eval s = v) (hown : w.ownsRow base e size v n xs) (hx : a.eval x = .slice none 0 c)
    (h : wpList P ops Q rest (a.put o.dst v) w) : wpList P ops Q (o :: rest) a w := by
  refine wpList_plain hgd fun K hK => ?_
  have hrun := run_append_none_c (P := P) (w := w) base t o.type e i size ht hi v n xs c hown
  unfold Oper.wp
  simp [execOp, ho, resolve, invoke, builtin, hs, hx, hrun, Result.andThen]
  exact hK _ _ h
set_option maxRecDepth 100000 in
theorem l00Own_any (a : Option Addr) (zs : List Int) (c : Nat) (w : World) (h : Ints w a zs) (hl : zs.length ≤ 1048576) :
    Calls Try.prog 73 #[.slice a zs.length c] w (GivesInts w zs) := by
  obtain ⟨i0, hi, hz0, hz1, hz2⟩ := info_parts Try.infoInt64
  have hown : OwnI (w.alloc (.cells #[] 2)) w.heap.size (.slice (some ⟨w.heap.size, 0, none⟩) 0 0) [] := World.ownsRow_made w #[] 0 (Nat.le_refl _) (by unfold maxLen; omega) rfl
  have HO := Lib.hid hown
  have HB := Lib.hid ((Below.refl w.heap.size w).alloc (Nat.le_refl _) (.cells #[] 2))
  clear hown
  cases a with
  | none =>
    have hz : zs = [] := by
      rcases h with h | ⟨b, o, e, _⟩
      · exact h
      · cases e
    subst hz
    go_enter Try.func73, Try.ntmps73
    go_wp2_with (at_builtin; refine wpList_append_none_c rfl _ _ 35 rfl w.heap.size 2 i0 1 Try.underlying35 hi _ 0 [] c rfl HO.out rfl ?_)
    go_wp2_with fail
    go_ret
    exact ⟨⟨_, rfl, HO.out⟩, HB.out⟩
  | some ad =>
    have hnews : ∀ j u, (vals zs)[j]? = some u → (w.alloc (.cells #[] 2)).cell? (ad.add j) = some u := fun j u hj => by
      obtain ⟨h1, rfl⟩ := vals_get zs hj
      rcases h with h | ⟨b, o, e, hc⟩
      · rw [h] at h1; exact absurd h1 (Nat.not_lt_zero _)
      · cases e
        have := cell_step ((Below.refl w.heap.size w).alloc (Nat.le_refl _) (.cells #[] 2)) (hc j h1)
        rw [add_plain]; exact this
    go_enter Try.func73, Try.ntmps73
    go_wp2_with (at_builtin; refine wpList_append_own _ rfl _ _ 35 rfl w.heap.size 2 i0 (.int .i64 0) 1 8 Try.underlying35 hi hz0 hz1 hz2 rfl (by decide) _ 0 [] rfl HO.out ad zs.length c (vals zs) rfl (by simp [vals]) hnews (by simp [vals, Value.oneCell']) (by unfold maxLen; omega) (by omega) (by simp) ?_; intro v' w1 hown1 hgrow1 _)
    go_wp2_with fail
    go_ret
    exact ⟨⟨_, rfl, by simpa [OwnI] using hown1⟩, HB.out.grown hgrow1 (by simp) (fun q hq => (HO.out.lt hq).1)⟩
end Go.Proofs.Ytnebkhelobpkpaa

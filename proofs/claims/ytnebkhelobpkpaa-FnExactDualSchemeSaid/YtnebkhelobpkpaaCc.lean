/- slices.Clone, slices.Grow and slices.Concat of numbers. -/
import Derived.Test.YtnebkhelobpkpaaOw
import Derived.Test.YtnebkhelobpkpaaGd
import Derived.Lib.AppendZerosOnto
import Derived.Lib.SliceRun
namespace Go.Proofs.Ytnebkhelobpkpaa
open Go.RowKit Go.Deep Go.Joins Go.ChangeShapes Go.WideShapes Go.ChangeAt
set_option linter.unusedVariables false

set_option maxRecDepth 100000 in
theorem clone_any (ab ao : Nat) (zs : List Int) (c : Nat) (w : World) (h : Ints w (some ⟨ab, ao, none⟩) zs) (hl : zs.length ≤ 1048576) :
    Calls Try.prog 136 #[.slice (some ⟨ab, ao, none⟩) zs.length c] w (GivesInts w zs) := by
  obtain ⟨i0, hi, hz0, hz1, hz2⟩ := info_parts Try.infoInt64
  have q22 : ∀ (w : World) (a : Option Addr) (n c n' c' : Nat), (binOp .eql 35 (.slice a n c) (.slice none n' c')).run Try.prog w = .ok (.bool a.isNone) w := fun w a n c n' c' => Lib.run_eql_slice_nil w _ _ a n c n' c' Try.underlying35
  have hown : OwnI (w.alloc (.cells #[] 2)) w.heap.size (.slice (some ⟨w.heap.size, 0, none⟩) 0 0) [] := World.ownsRow_made w #[] 0 (Nat.le_refl _) (by unfold maxLen; omega) rfl
  have HO := Lib.hid hown
  have HB := Lib.hid ((Below.refl w.heap.size w).alloc (Nat.le_refl _) (.cells #[] 2))
  clear hown
  have hnews : ∀ j u, (vals zs)[j]? = some u → (w.alloc (.cells #[] 2)).cell? ((⟨ab, ao, none⟩ : Addr).add j) = some u := fun j u hj => by
    obtain ⟨h1, rfl⟩ := vals_get zs hj
    rcases h with h | ⟨b, o, e, hc⟩
    · rw [h] at h1; exact absurd h1 (Nat.not_lt_zero _)
    · cases e
      have := cell_step ((Below.refl w.heap.size w).alloc (Nat.le_refl _) (.cells #[] 2)) (hc j h1)
      rw [add_plain]; exact this
  go_enter Try.func136, Try.ntmps136
  go_wp2_with (at_builtin; refine wpList_append_own _ rfl _ _ 35 rfl w.heap.size 2 i0 (.int .i64 0) 1 8 Try.underlying35 hi hz0 hz1 hz2 rfl (by decide) _ 0 [] rfl HO.out ⟨ab, ao, none⟩ zs.length c (vals zs) rfl (by simp [vals]) hnews (by simp [vals, Value.oneCell']) (by unfold maxLen; omega) (by omega) (by simp) ?_; intro v' w1 hown1 hgrow1 _)
  go_wp2_with fail
  go_ret
  exact ⟨⟨_, rfl, by simpa [OwnI] using hown1⟩, HB.out.grown hgrow1 (by simp) (fun q hq => (HO.out.lt hq).1)⟩

set_option maxRecDepth 100000 in
theorem grow_any (n : Nat) (w : World) (hn : n ≤ 100000) :
    Calls Try.prog 129 #[.slice none 0 0, .int .i64 n] w fun e w' => (∃ v, e = .returned v ∧ OwnI w' w.heap.size v []) ∧ Below w.heap.size w w' := by
  obtain ⟨i0, hi, hz0, hz1, hz2⟩ := info_parts Try.infoInt64
  by_cases h0 : n = 0
  · subst h0
    go_enter Try.func129, Try.ntmps129
    go_wp2_with fail
    go_ret
    exact ⟨⟨_, rfl, OwnI.nil _ _⟩, Below.refl _ _⟩
  have hp : 0 < n := by omega
  have hp0 : (0 : Int) < (n : Int) := by omega
  have hn0 : ¬ ((n : Int) < 0) := by omega
  have hrz : ∀ ty, (Builtin.append_ #[35, 3] ty #[.slice none 0 0, .int .i64 (n : Int)]).run Try.prog w =
      .ok (.slice (some ⟨w.heap.size, 0, none⟩) n (grownCap w n 0 2)) (w.drew.alloc (.cells (#[] ++ Builtin.zeroCells (Value.int .i64 0).cells n ++ Builtin.zeroCells (Value.int .i64 0).cells (grownCap w n 0 2 - n)) 2)) := fun ty => by
    have h := Lib.run_append_grow_zeros w 35 3 ty 2 i0 (.int .i64 0) .i64 .i64 Try.underlying35 Try.underlying3 hi hz0 none 0 0 [] (by simpa using run_firstCells_none w.drew i0.size 0 0 0) n hp (by omega) (by omega) (by omega) (by rw [hz2]; omega) (growslice_fits (by omega) (by rw [hz2]; omega))
    simpa only [Nat.zero_add] using h
  have hG1 : n ≤ grownCap w n 0 2 := grownCap_ge w _ _ _
  have hG2 := grownCap_le_maxLen w n 0 2 (by unfold maxLen; omega)
  generalize grownCap w n 0 2 = G at *
  have hG63 : G ≤ 9223372036854775807 := by unfold maxLen at hG2; omega
  have HO := Lib.hid (show OwnI (w.drew.alloc (.cells (#[] ++ Builtin.zeroCells (Value.int .i64 0).cells n ++ Builtin.zeroCells (Value.int .i64 0).cells (G - n)) 2)) w.heap.size (.slice (some ⟨w.heap.size, 0, none⟩) 0 G) [] from by
    have := World.ownsRow_made (base := w.heap.size) (e := 2) (size := 1) w.drew (#[] ++ Builtin.zeroCells (Value.int .i64 0).cells n ++ Builtin.zeroCells (Value.int .i64 0).cells (G - n)) G (by simp) hG2 (by simp [size_zeroCells, Value.cells]; omega)
    exact this)
  have HB := Lib.hid ((Below.refl w.heap.size w).drew.alloc (by simp) (.cells (#[] ++ Builtin.zeroCells (Value.int .i64 0).cells n ++ Builtin.zeroCells (Value.int .i64 0).cells (G - n)) 2))
  go_enter Try.func129, Try.ntmps129
  go_wp2_with (at_builtin; refine Lib.wpList_append_run _ rfl _ _ _ _ rfl _ _ rfl rfl _ _ (hrz _) ?_; generalize w.drew.alloc (.cells (#[] ++ Builtin.zeroCells (Value.int .i64 0).cells n ++ Builtin.zeroCells (Value.int .i64 0).cells (G - n)) 2) = w9 at *)
  all_goals (go_ret; exact ⟨⟨_, rfl, HO.out⟩, HB.out⟩)

end Go.Proofs.Ytnebkhelobpkpaa

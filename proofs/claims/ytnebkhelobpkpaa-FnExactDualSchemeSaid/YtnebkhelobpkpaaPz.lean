/- The rows of a group, and lists with one 1: secretList, l04First. -/
import Derived.Test.YtnebkhelobpkpaaRh
import Derived.Test.YtnebkhelobpkpaaRa
import Derived.Test.YtnebkhelobpkpaaKe0
namespace Go.Proofs.Ytnebkhelobpkpaa
open Go.RowKit Go.Deep Go.Joins
set_option linter.unusedVariables false

theorem pickTo_mem {P : Nat → Bool} {k : Nat} {x : Int} (h : x ∈ pickTo P k) : 0 ≤ x ∧ x < k := by
  unfold pickTo at h
  obtain ⟨i, hi, rfl⟩ := List.mem_map.1 h
  have := (List.mem_filter.1 hi).1
  rw [List.mem_range] at this
  omega
theorem pickTo_in {P : Nat → Bool} {k i : Nat} (h : i < (pickTo P k).length) : 0 ≤ nth (pickTo P k) i ∧ nth (pickTo P k) i < k := by
  rw [nth_lt h]; exact pickTo_mem (List.getElem_mem h)
/-- The indices of the rows of a group. -/
noncomputable def partI (yo gs : List Int) : List Int := pickTo (held yo gs) yo.length
/-- The rows of a group. -/
noncomputable def partZ (yo : List Int) (z : List (List Int)) (gs : List Int) : List (List Int) := rowsOf z (partI yo gs)
theorem partZ_len (yo : List Int) (z : List (List Int)) (gs : List Int) : (partZ yo z gs).length = (partI yo gs).length := rowsOf_len _ _
theorem partI_len (yo gs : List Int) : (partI yo gs).length ≤ yo.length := pickTo_len _ _
theorem rowsOf_good {p : Int} {n : Nat} {z : List (List Int)} {rs : List Int} (h : GoodM p n z) (hr : rs.length ≤ 1000) (hi : ∀ i, i < rs.length → 0 ≤ nth rs i ∧ nth rs i < z.length) : GoodM p n (rowsOf z rs) :=
  ⟨h.prm, h.hn, by rw [rowsOf_len]; exact hr, fun r hr => by
    rw [rowsOf_len] at hr
    rw [rowsOf_nth z rs hr]
    have := hi r hr
    exact h.rows _ (by omega)⟩
theorem part_good {h f l : Int} {yo : List Int} {z : List (List Int)} (hok : SchOk h yo f l z) (gs : List Int) : GoodM f l.toNat (partZ yo z gs) := by
  have hy := hok.2.2.2.1
  have hz := hok.2.1.2.2.1
  have := partI_len yo gs
  refine rowsOf_good (GoodM.of hok.2.1) (by omega) fun i hi => ?_
  have := pickTo_in hi
  exact ⟨this.1, by unfold partI; omega⟩
/-- The list with 1 in the first column. -/
def fstL (n : Nat) : List Int := rowOf n (oneAt 0)
theorem fstL_len (n : Nat) : (fstL n).length = n := rowOf_len _ _
theorem fstL_elems {p : Int} (hp : 2 ≤ p) (n : Nat) : Elems p (fstL n) := fun i hi => by
  rw [fstL_len] at hi
  unfold fstL
  rw [rowOf_at _ _ hi]
  unfold oneAt
  split
  · exact ⟨by omega, by omega⟩
  · exact ⟨by omega, by omega⟩

set_option maxRecDepth 100000 in
set_option maxHeartbeats 1000000 in
theorem l04First_any (n : Nat) (w : World) (h0 : 0 < n) (hn : n ≤ 1000) : Calls Try.prog 71 #[.int .i64 ((n : Nat) : Int)] w (GivesInts w (fstL n)) := by
  have hmk := run_make_row' (P := Try.prog) 35 2 (.int .i64 0) 8 Try.underlying35 Try.infoInt64 rfl .i64 .i64 n (by omega) (by omega)
  have h0' : (0 : Int) < (n : Int) := by omega
  have hr0 := World.rowIs_made w (.int .i64 0) n 2
  have hc := hr0.cell (i := 0) h0
  have hf := hr0.frozen 0
  have hlt := hr0.lt
  have HR := Lib.hid ((hr0.set 0 (.int .i64 1)).congr (g := fun q => .int .i64 (nth (fstL n) q)) (fun q hq => by
    unfold fstL
    rw [rowOf_at _ _ hq]
    unfold oneAt
    by_cases e : q = 0
    · subst e; simp
    · simp [e]))
  have HB := Lib.hid (((Below.refl w.heap.size w).alloc (Nat.le_refl _) (.cells (madeCells #[.int .i64 0] n) 2)).setCell (p := ⟨w.heap.size, 0, none⟩) (Nat.le_refl _) (.int .i64 1))
  clear hr0
  go_enter Try.func71, Try.ntmps71
  go_upto_region 2 with fail
  generalize w.alloc (.cells (madeCells #[.int .i64 0] n) 2) = w1 at *
  clear hmk
  go_wp2_with fail
  go_ret
  refine ⟨⟨_, rfl, ?_⟩, HB.out⟩
  have h2 := own_of_row (zs := fstL n) (by rw [fstL_len]; exact HR.out) (by rw [fstL_len]; unfold maxLen; omega)
  rw [fstL_len] at h2
  exact h2

set_option maxRecDepth 100000 in
set_option maxHeartbeats 1000000 in
theorem secretList_any (n : Nat) (w : World) (h0 : 0 < n) (hn : n ≤ 1000) : Calls Try.prog 77 #[.int .i64 ((n : Nat) : Int)] w (GivesInts w (fstL n)) := by
  have hmk := run_make_row' (P := Try.prog) 35 2 (.int .i64 0) 8 Try.underlying35 Try.infoInt64 rfl .i64 .i64 n (by omega) (by omega)
  have h0' : (0 : Int) < (n : Int) := by omega
  have hr0 := World.rowIs_made w (.int .i64 0) n 2
  have hc := hr0.cell (i := 0) h0
  have hf := hr0.frozen 0
  have hlt := hr0.lt
  have HR := Lib.hid ((hr0.set 0 (.int .i64 1)).congr (g := fun q => .int .i64 (nth (fstL n) q)) (fun q hq => by
    unfold fstL
    rw [rowOf_at _ _ hq]
    unfold oneAt
    by_cases e : q = 0
    · subst e; simp
    · simp [e]))
  have HB := Lib.hid (((Below.refl w.heap.size w).alloc (Nat.le_refl _) (.cells (madeCells #[.int .i64 0] n) 2)).setCell (p := ⟨w.heap.size, 0, none⟩) (Nat.le_refl _) (.int .i64 1))
  clear hr0
  go_enter Try.func77, Try.ntmps77
  go_upto_region 2 with fail
  generalize w.alloc (.cells (madeCells #[.int .i64 0] n) 2) = w1 at *
  clear hmk
  go_wp2_with fail
  go_ret
  refine ⟨⟨_, rfl, ?_⟩, HB.out⟩
  have h2 := own_of_row (zs := fstL n) (by rw [fstL_len]; exact HR.out) (by rw [fstL_len]; unfold maxLen; omega)
  rw [fstL_len] at h2
  exact h2
end Go.Proofs.Ytnebkhelobpkpaa

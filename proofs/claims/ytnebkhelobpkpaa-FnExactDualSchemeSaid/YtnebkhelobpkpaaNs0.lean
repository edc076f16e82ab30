/- newScheme of the program. -/
import Derived.Test.YtnebkhelobpkpaaOr
import Derived.Test.YtnebkhelobpkpaaSch
import Derived.Test.YtnebkhelobpkpaaCp3
import Derived.Deep.AppendLies
namespace Go.Proofs.Ytnebkhelobpkpaa
open Go.RowKit Go.Deep
set_option linter.unusedVariables false

theorem clone_eq (ab ao n : Nat) (zs : List Int) (c : Nat) (w : World) (hn : zs.length = n) (h : Ints w (some ⟨ab, ao, none⟩) zs) (hl : n ≤ 1048576) :
    Calls Try.prog 136 #[.slice (some ⟨ab, ao, none⟩) n c] w (GivesInts w zs) := by
  subst hn; exact clone_any ab ao zs c w h hl
theorem oc_get (o : Int) (L : List Int) {j : Nat} (h : j < 12) : (oc o L)[j + 1]? = some (.int .i64 (nth L j)) := by
  match j, h with
  | 0, _ => rfl
  | 1, _ => rfl
  | 2, _ => rfl
  | 3, _ => rfl
  | 4, _ => rfl
  | 5, _ => rfl
  | 6, _ => rfl
  | 7, _ => rfl
  | 8, _ => rfl
  | 9, _ => rfl
  | 10, _ => rfl
  | 11, _ => rfl
  | j + 12, h => omega
theorem ints_of_box {W : World} {q : Nat} {t : TypeId} {o : Int} {L : List Int} (h : Boxes W q t (oc o L).toArray) (hl : L.length ≤ 12) : Ints W (some ⟨q, 1, none⟩) L := by
  refine .inr ⟨q, 1, rfl, fun i hi => ?_⟩
  rw [h.cell, Nat.add_comm 1 i]
  simpa using oc_get o L (show i < 12 by omega)
theorem ownR_cells {W : World} {base n vc : Nat} {va : Option Addr} {yo : List Int} {z : List (List Int)} (h : OwnR W base (.slice va n vc) yo z n) {k : Nat} (hk : k < n) : ∃ g, va = some ⟨g, 0, none⟩ ∧ ∀ j, j < 13 → W.cell? ⟨g, k * 13 + j, none⟩ = (oc (nth yo k) (nthL z k))[j]? := by
  rcases h.2 with ⟨hv, hn⟩ | ⟨g, cap, cur, hv, _⟩
  · cases hv; omega
  · cases hv
    exact ⟨g, rfl, fun j hj => by rw [World.ownsRow.cellAt h (k * 13 + j) (by omega), ocs_get _ _ _ hk hj]⟩
theorem RowsOwn.kept {W W' : World} {base : Nat} {us : List Value} {zss : List (List Int)} {row : Option Nat} (h : RowsOwn W base us zss) (hg : W.grownBy W' row) (hs : ∀ u ∈ us, u.ownBlock = none ∨ u.ownBlock ≠ row) : RowsOwn W' base us zss :=
  ⟨h.len, fun i u zs h1 h2 => World.ownsRow.kept (h.own i u zs h1 h2) hg (hs u (List.mem_of_getElem? h1)), h.sep⟩
/-- No row lies in a block. -/
def Sep (us : List Value) (v : Value) : Prop := ∀ u ∈ us, ∀ b, u.ownBlock = some b → v.ownBlock ≠ some b
theorem Sep.nil (v : Value) : Sep [] v := fun u hu => by cases hu
theorem Boxes.otherB {W : World} {B : Nat} {t : TypeId} {vs : Array Value} (h : Boxes W B t vs) {b o : Nat} (hne : B ≠ b) {v : Value} : Boxes (W.setCell ⟨b, o, none⟩ v) B t vs :=
  (Below.heap_setCell W ⟨b, o, none⟩ v B hne).trans h
theorem Sep.arm {us : List Value} {v : Value} (h : Sep us v) : ∀ u ∈ us, u.ownBlock = none ∨ u.ownBlock ≠ v.ownBlock := fun u hu => by
  cases e : u.ownBlock with
  | none => exact .inl rfl
  | some b => exact .inr fun e2 => h u hu b e e2.symm
theorem Sep.first {W : World} {us : List Value} {base : Nat} {zss : List (List Int)} {v : Value} {g k c H : Nat} (h : Sep us v) (hr : RowsOwn W base us zss) (hat : v.ownBlock = some g ∨ g = H) (hH : W.heap.size ≤ H) : Sep us (.slice (some ⟨g, 0, none⟩) k c) := by
  intro u hu b hb e
  have e1 : g = b := by simpa [Value.ownBlock] using e
  rcases hat with h1 | h1
  · exact h u hu b hb (by rw [h1, e1])
  · obtain ⟨i, hi, rfl⟩ := List.mem_iff_getElem.1 hu
    have := (hr.own i us[i] (zss[i]'(by rw [← hr.len]; exact hi)) (by simp [hi]) (by simp)).lt hb
    omega
theorem Sep.snoc {W : World} {us : List Value} {g k c B : Nat} {u : Value} {zs : List Int} (h : Sep us (.slice (some ⟨g, 0, none⟩) k c)) (hg : g < B) (hu : OwnI W B u zs) : Sep (us ++ [u]) (.slice (some ⟨g, 0, none⟩) k c) := by
  intro u1 hu1 b hb e
  rcases List.mem_append.1 hu1 with h1 | h1
  · exact h u1 h1 b hb e
  · obtain rfl : u1 = u := by simpa using h1
    have e1 : g = b := by simpa [Value.ownBlock] using e
    have := hu.lt hb
    omega
theorem Boxes.set51 {W : World} {B : Nat} {t : TypeId} {u0 u1 u2 u3 u4 : Value} (h : Boxes W B t #[u0, u1, u2, u3, u4]) (v : Value) : Boxes (W.setCell ⟨B, 1, none⟩ v) B t #[u0, v, u2, u3, u4] := by
  unfold Boxes at h ⊢
  simp [World.setCell, Array.getElem?_modify, h]
theorem Boxes.set54 {W : World} {B : Nat} {t : TypeId} {u0 u1 u2 u3 u4 : Value} (h : Boxes W B t #[u0, u1, u2, u3, u4]) (v : Value) : Boxes (W.setCell ⟨B, 4, none⟩ v) B t #[u0, u1, u2, u3, v] := by
  unfold Boxes at h ⊢
  simp [World.setCell, Array.getElem?_modify, h]
/-- What gives a scheme and a code in memory of its own. -/
structure GivesSY (W : World) (h f l : Int) (yo : List Int) (z : List (List Int)) (code : Int) (e : Ending) (w' : World) : Prop where
  val : ∃ vo v us, e = .returned (.tuple #[.agg #[.int .i64 h, vo, .int .i64 f, .int .i64 l, v], .int .i64 code]) ∧ OwnI w' W.heap.size vo yo ∧ Own w' W.heap.size v us z ∧ Sep us vo
  below : Below W.heap.size W w'

set_option maxRecDepth 100000 in
set_option maxHeartbeats 1000000 in
theorem newScheme_bad (h p c : Int) (va : Option Addr) (n vc : Nat) (w : World) (hn : n ≤ 1000000) (hb : 12 < c ∨ 20 < n) :
    Calls Try.prog 88 #[.int .i64 h, .int .i64 p, .int .i64 c, .slice va n vc] w (GivesSY w 0 0 0 [] [] 3) := by
  by_cases h1 : 12 < c
  · go_enter Try.func88, Try.ntmps88
    go_wp2_with fail
    refine bodyPost_ret (v := .tuple #[.agg #[.int .i64 0, .slice none 0 0, .int .i64 0, .int .i64 0, .slice none 0 0], .int .i64 3]) (by simp [results, Try.results88, go_sem]) rfl ⟨⟨_, _, [], rfl, OwnI.nil _ _, Own.nil3 _ _, fun u hu => by cases hu⟩, ?_⟩
    first | exact (Below.refl _ _).alloc (Nat.le_refl _) _ | exact (((((((Below.refl w.heap.size w).alloc (Nat.le_refl _) _).setCell (p := ⟨w.heap.size, 0, none⟩) (Nat.le_refl _) _).setCell (p := ⟨w.heap.size, 1, none⟩) (Nat.le_refl _) _).setCell (p := ⟨w.heap.size, 2, none⟩) (Nat.le_refl _) _).setCell (p := ⟨w.heap.size, 3, none⟩) (Nat.le_refl _) _).setCell (p := ⟨w.heap.size, 4, none⟩) (Nat.le_refl _) _)
  · have h2 : (20 : Int) < (n : Int) := by omega
    go_enter Try.func88, Try.ntmps88
    go_wp2_with fail
    refine bodyPost_ret (v := .tuple #[.agg #[.int .i64 0, .slice none 0 0, .int .i64 0, .int .i64 0, .slice none 0 0], .int .i64 3]) (by simp [results, Try.results88, go_sem]) rfl ⟨⟨_, _, [], rfl, OwnI.nil _ _, Own.nil3 _ _, fun u hu => by cases hu⟩, ?_⟩
    first | exact (Below.refl _ _).alloc (Nat.le_refl _) _ | exact (((((((Below.refl w.heap.size w).alloc (Nat.le_refl _) _).setCell (p := ⟨w.heap.size, 0, none⟩) (Nat.le_refl _) _).setCell (p := ⟨w.heap.size, 1, none⟩) (Nat.le_refl _) _).setCell (p := ⟨w.heap.size, 2, none⟩) (Nat.le_refl _) _).setCell (p := ⟨w.heap.size, 3, none⟩) (Nat.le_refl _) _).setCell (p := ⟨w.heap.size, 4, none⟩) (Nat.le_refl _) _)
end Go.Proofs.Ytnebkhelobpkpaa

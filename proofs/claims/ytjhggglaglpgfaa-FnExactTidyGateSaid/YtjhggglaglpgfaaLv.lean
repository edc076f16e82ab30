/- LeavesOf, the program's and the model's. -/
import Derived.Test.YtjhggglaglpgfaaAs
namespace Go.Proofs.Ytjhggglaglpgfaa
open Go.RowKit Go.Deep
set_option linter.unusedVariables false

namespace Fo
/-- How many leaves a holder has among gates. -/
def leaves (j : Nat) : Fo → Nat
  | nil => 0
  | cons h l k r => (match k with | nil => (decide (h = (j : Int))).toNat | cons a b c d => (cons a b c d).leaves j) + r.leaves j
/-- How many leaves a holder has in a gate. -/
def gleaves (j : Nat) (h : Int) (k : Fo) : Nat := match k with | nil => (decide (h = (j : Int))).toNat | cons a b c d => (cons a b c d).leaves j
def lpre (j : Nat) : Fo → Nat → Nat
  | nil, _ => 0
  | cons _ _ _ _, 0 => 0
  | cons h _ k r, i + 1 => gleaves j h k + r.lpre j i
theorem leaves_cons (j : Nat) (h l : Int) (k r : Fo) : (cons h l k r).leaves j = gleaves j h k + r.leaves j := by
  cases k <;> rfl
theorem lpre_zero (j : Nat) (f : Fo) : f.lpre j 0 = 0 := by cases f <;> rfl
theorem lpre_succ (j : Nat) (f : Fo) {i : Nat} (h : i < f.len) : f.lpre j (i + 1) = f.lpre j i + gleaves j (f.hAt i) (f.kAt i) := by
  induction f generalizing i with
  | nil => simp [len] at h
  | cons a l k r _ ih =>
    cases i with
    | zero => simp [lpre, hAt, kAt, lpre_zero]
    | succ i =>
      have := ih (i := i) (by simp [len] at h; omega)
      simp only [lpre, hAt, kAt] at this ⊢
      omega
theorem lpre_len (j : Nat) (f : Fo) : f.lpre j f.len = f.leaves j := by
  induction f with
  | nil => rfl
  | cons a l k r _ ih => rw [leaves_cons]; simp only [len, lpre, ih]
theorem leaves_le (j : Nat) (f : Fo) : f.leaves j ≤ f.size := by
  induction f with
  | nil => simp [leaves]
  | cons a l k r ihk ihr =>
    rw [leaves_cons]
    have h1 : gleaves j a k ≤ k.size + 1 := by
      cases k with
      | nil => exact Nat.le_trans (Bool.toNat_le _) (by simp [size])
      | cons x y z u => exact Nat.le_trans ihk (Nat.le_succ _)
    simp only [size]
    omega
theorem lpre_le (j : Nat) (f : Fo) (i : Nat) : f.lpre j i ≤ f.size := by
  induction f generalizing i with
  | nil => simp [lpre]
  | cons a l k r _ ih =>
    cases i with
    | zero => simp [lpre]
    | succ i =>
      have h1 : gleaves j a k ≤ k.size + 1 := by
        cases k with
        | nil => exact Nat.le_trans (Bool.toNat_le _) (by simp [size])
        | cons x y z u => exact Nat.le_trans (leaves_le j _) (Nat.le_succ _)
      have := ih i
      simp only [lpre, size]
      omega
theorem gleaves_some (j : Nat) (h : Int) {k : Fo} (hk : 0 < k.len) : gleaves j h k = k.leaves j := by
  cases k with
  | nil => simp [len] at hk
  | cons => rfl
theorem gleaves_le (j : Nat) (h : Int) (k : Fo) : gleaves j h k ≤ k.size + 1 := by
  cases k with
  | nil => exact Nat.le_trans (Bool.toNat_le _) (by simp [size])
  | cons x y z u => exact Nat.le_trans (leaves_le j _) (Nat.le_succ _)
theorem lpre_pre (j : Nat) {f : Fo} {k : Nat} (h : k < f.len) : f.lpre j k ≤ f.pre k := by
  induction f generalizing k with
  | nil => simp [lpre]
  | cons a l kk r _ ihr =>
    cases k with
    | zero => simp [lpre]
    | succ k =>
      have h1 : gleaves j a kk ≤ kk.size + 1 := gleaves_le j a kk
      have := ihr (k := k) (by simp [len] at h; omega)
      simp only [lpre, pre]
      omega
end Fo

/-- What has been counted: only the counts' block has turned. -/
structure Counted (W : World) (cb n : Nat) (x : Nat → Int) (e : Ending) (W' : World) : Prop where
  val : e = .returned (.tuple #[])
  row : W'.rowIs cb 2 n (fun i => .int .i64 (x i))
  touch : Touch cb (cb + 1) W W'

theorem touch_set (cb q : Nat) (v : Value) (w : World) : Touch cb (cb + 1) w (w.setCell ⟨cb, q, none⟩ v) := ⟨rfl, rfl, rfl, by simp, fun k _ hk => Below.heap_setCell _ _ _ k (fun e => by simp at e; omega)⟩
/-- Gates in blocks of which something is known. -/
def QAt (W : World) (ok : Nat → Prop) : Fo → Nat → Nat → Prop
  | .nil, _, _ => True
  | .cons h l k r, b, o => W.cell? ⟨b, o, none⟩ = some (.int .i64 h) ∧ W.cell? ⟨b, o + 1, none⟩ = some (.int .i64 l) ∧
      (∃ (a : Option Addr) (c : Nat), W.cell? ⟨b, o + 2, none⟩ = some (.slice a k.len c) ∧ (k = .nil ∨ ∃ b' o', a = some ⟨b', o', none⟩ ∧ ok b' ∧ QAt W ok k b' o')) ∧ QAt W ok r b (o + 3)
def KidsQ (W : World) (ok : Nat → Prop) (a : Option Addr) (f : Fo) : Prop := f = .nil ∨ ∃ b o, a = some ⟨b, o, none⟩ ∧ ok b ∧ QAt W ok f b o
theorem QAt.get {W : World} {ok : Nat → Prop} {f : Fo} {b o : Nat} (h : QAt W ok f b o) {i : Nat} (hi : i < f.len) :
    W.cell? ⟨b, o + i * 3, none⟩ = some (.int .i64 (f.hAt i)) ∧ W.cell? ⟨b, o + i * 3 + 1, none⟩ = some (.int .i64 (f.lAt i)) ∧
      ∃ (a : Option Addr) (c : Nat), W.cell? ⟨b, o + i * 3 + 2, none⟩ = some (.slice a (f.kAt i).len c) ∧ KidsQ W ok a (f.kAt i) := by
  induction f generalizing i o with
  | nil => simp [Fo.len] at hi
  | cons x l k r _ ih =>
    cases i with
    | zero =>
      simp only [Nat.zero_mul, Nat.add_zero, Fo.hAt, Fo.lAt, Fo.kAt]
      obtain ⟨h1, h2, ⟨a, c, h3, h4⟩, _⟩ := h
      exact ⟨h1, h2, a, c, h3, h4⟩
    | succ i =>
      have := ih h.2.2.2 (i := i) (by simp [Fo.len] at hi; omega)
      rw [show o + 3 + i * 3 = o + (i + 1) * 3 by omega] at this
      exact this
theorem QAt.touch {lo hi : Nat} {W W' : World} {ok : Nat → Prop} (ht : Touch lo hi W W') (hok : ∀ b, ok b → b < lo ∨ hi ≤ b) {f : Fo} {b o : Nat} (h : QAt W ok f b o) (hb : ok b) : QAt W' ok f b o := by
  induction f generalizing b o with
  | nil => trivial
  | cons x l k r ihk ihr =>
    obtain ⟨h1, h2, ⟨a, c, h3, h4⟩, h5⟩ := h
    refine ⟨ht.cell h1 (hok _ hb), ht.cell h2 (hok _ hb), ⟨a, c, ht.cell h3 (hok _ hb), ?_⟩, ihr h5 hb⟩
    rcases h4 with h4 | ⟨b', o', e, hb', h6⟩
    · exact .inl h4
    · exact .inr ⟨b', o', e, hb', ihk h6 hb'⟩
theorem KidsQ.touch {lo hi : Nat} {W W' : World} {ok : Nat → Prop} (ht : Touch lo hi W W') (hok : ∀ b, ok b → b < lo ∨ hi ≤ b) {a : Option Addr} {f : Fo} (h : KidsQ W ok a f) : KidsQ W' ok a f := by
  rcases h with h | ⟨b, o, e, hb, h⟩
  · exact .inl h
  · exact .inr ⟨b, o, e, hb, h.touch ht hok hb⟩
theorem FAt.qat {W : World} {B : Nat} {f : Fo} {b o : Nat} (h : FAt W B f b o) : QAt W (· < W.heap.size) f b o := by
  induction f generalizing b o with
  | nil => trivial
  | cons x l k r ihk ihr =>
    obtain ⟨h1, h2, ⟨a, c, h3, h4⟩, h5⟩ := h
    refine ⟨h1, h2, ⟨a, c, h3, ?_⟩, ihr h5⟩
    rcases h4 with h4 | ⟨b', o', e, hb', h6⟩
    · exact .inl h4
    · refine (Classical.em (k = .nil)).elim .inl fun hn => .inr ⟨b', o', e, ?_, ihk h6⟩
      cases k with
      | nil => exact absurd rfl hn
      | cons y m k2 r2 => exact World.block_lt_of_cell? _ _ h6.1
theorem Kids.kidsQ {W : World} {B : Nat} {a : Option Addr} {f : Fo} (h : Kids W B a f) : KidsQ W (· < W.heap.size) a f := by
  rcases h with h | ⟨b, o, e, hb, h⟩
  · exact .inl h
  · refine (Classical.em (f = .nil)).elim .inl fun hn => .inr ⟨b, o, e, ?_, h.qat⟩
    cases f with
    | nil => exact absurd rfl hn
    | cons y m k2 r2 => exact World.block_lt_of_cell? _ _ h.1
theorem leaf_row {w : World} {cb n q : Nat} {x : Nat → Int} (hrow : w.rowIs cb 2 n (fun i => .int .i64 (x i))) : (w.setCell ⟨cb, q, none⟩ (.int .i64 (x q + 1))).rowIs cb 2 n (fun i => .int .i64 (x i + Fo.gleaves i (q : Int) .nil)) :=
  (hrow.set q (.int .i64 (x q + 1))).congr (g := fun i => .int .i64 (x i + Fo.gleaves i (q : Int) .nil)) (fun i _ => by
    by_cases e : i = q
    · subst e; simp [Fo.gleaves]
    · have : ¬ ((q : Int) = (i : Int)) := by omega
      simp [Fo.gleaves, e, this])

end Go.Proofs.Ytjhggglaglpgfaa

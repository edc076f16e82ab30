/- Tidy gates: the plain part; spread of the program. -/
import Derived.Test.YtjhggglaglpgfaaDg
namespace Go.Proofs.Ytjhggglaglpgfaa
open Go.RowKit Go.Deep Go.Joins Go.ChangeShapes Go.WideShapes Go.ChangeAt
set_option linter.unusedVariables false
attribute [local go_sem ↓] Go.wp_at_zero Go.wp_at_succ

namespace Fo
def app : Fo → Fo → Fo
  | nil, g => g
  | cons h l k r, g => cons h l k (r.app g)
theorem app_len (f g : Fo) : (f.app g).len = f.len + g.len := by
  induction f with
  | nil => simp [app, len]
  | cons h l k r _ ih => simp only [app, len, ih]; omega
theorem app_size (f g : Fo) : (f.app g).size = f.size + g.size := by
  induction f with
  | nil => simp [app, size]
  | cons h l k r _ ih => simp only [app, size, ih]; omega
theorem app_nil (f : Fo) : f.app nil = f := by
  induction f with
  | nil => rfl
  | cons h l k r _ ih => simp only [app, ih]
theorem app_assoc (f g u : Fo) : (f.app g).app u = f.app (g.app u) := by
  induction f with
  | nil => rfl
  | cons h l k r _ ih => simp only [app, ih]
theorem app_left (f g : Fo) {j : Nat} (h : j < f.len) : (f.app g).hAt j = f.hAt j ∧ (f.app g).lAt j = f.lAt j ∧ (f.app g).kAt j = f.kAt j := by
  induction f generalizing j with
  | nil => simp [len] at h
  | cons a l k r _ ih =>
    cases j with
    | zero => exact ⟨rfl, rfl, rfl⟩
    | succ j => exact ih (by simp [len] at h; omega)
theorem app_right (f g : Fo) (j : Nat) : (f.app g).hAt (f.len + j) = g.hAt j ∧ (f.app g).lAt (f.len + j) = g.lAt j ∧ (f.app g).kAt (f.len + j) = g.kAt j := by
  induction f with
  | nil => simp [len, app]
  | cons a l k r _ ih =>
    have e : (cons a l k r).len + j = (r.len + j) + 1 := by simp only [len]; omega
    rw [e]
    exact ih
theorem app_form {n : Int} {f g : Fo} (hf : f.form n) (hg : g.form n) : (f.app g).form n := by
  induction f with
  | nil => exact hg
  | cons a l k r _ ih => exact ⟨hf.1, ih hf.2⟩
/-- The first gates. -/
def tk : Fo → Nat → Fo
  | nil, _ => nil
  | cons _ _ _ _, 0 => nil
  | cons h l k r, i + 1 => cons h l k (r.tk i)
theorem tk_zero (f : Fo) : f.tk 0 = nil := by cases f <;> rfl
theorem tk_len (f : Fo) : f.tk f.len = f := by
  induction f with
  | nil => rfl
  | cons a l k r _ ih => simp only [len, tk, ih]
theorem tk_succ (f : Fo) {i : Nat} (h : i < f.len) : f.tk (i + 1) = (f.tk i).app (cons (f.hAt i) (f.lAt i) (f.kAt i) nil) := by
  induction f generalizing i with
  | nil => simp [len] at h
  | cons a l k r _ ih =>
    cases i with
    | zero => simp [tk, tk_zero, app, hAt, lAt, kAt]
    | succ i =>
      have := ih (i := i) (by simp [len] at h; omega)
      simp only [tk, app, hAt, lAt, kAt, this]
/-- Gates with the kids of each chosen threshold in its place. -/
def spread (P : Int → Nat → Bool) : Fo → Fo
  | nil => nil
  | cons h l k r => if (decide (0 < k.len) && P l k.len) = true then k.app (r.spread P) else cons h l k (r.spread P)
theorem spread_app (P : Int → Nat → Bool) (f g : Fo) : (f.app g).spread P = (f.spread P).app (g.spread P) := by
  induction f with
  | nil => rfl
  | cons h l k r _ ih =>
    simp only [app, spread, ih]
    split
    · rw [app_assoc]
    · rfl
theorem spread_size (P : Int → Nat → Bool) (f : Fo) : (f.spread P).size ≤ f.size := by
  induction f with
  | nil => exact Nat.le_refl _
  | cons h l k r _ ih =>
    simp only [spread]
    split
    · rw [app_size]; simp only [size]; omega
    · simp only [size]; omega
theorem spread_pos (P : Int → Nat → Bool) (f : Fo) (h : 0 < f.len) : 0 < (f.spread P).len := by
  cases f with
  | nil => simp [len] at h
  | cons h l k r =>
    simp only [spread]
    split
    · next q => simp at q; rw [app_len]; omega
    · simp only [len]; omega
theorem spread_form {n : Int} (P : Int → Nat → Bool) {f : Fo} (hf : f.form n) : (f.spread P).form n := by
  induction f with
  | nil => trivial
  | cons h l k r _ ih =>
    simp only [spread]
    split
    · next q =>
      simp at q
      refine app_form ?_ (ih hf.2)
      rcases hf.1 with ⟨h1, _⟩ | ⟨_, _, _, _, h5⟩
      · omega
      · exact h5
    · exact ⟨hf.1, ih hf.2⟩
theorem spread_hit (P : Int → Nat → Bool) (f : Fo) {i : Nat} (h : i < f.len) (hk : 0 < (f.kAt i).len) (hp : P (f.lAt i) (f.kAt i).len = true) : (f.tk (i + 1)).spread P = ((f.tk i).spread P).app (f.kAt i) := by
  rw [tk_succ f h, spread_app]
  congr 1
  simp only [spread]
  rw [if_pos (by simp [hk, hp]), app_nil]
theorem spread_miss (P : Int → Nat → Bool) (f : Fo) {i : Nat} (h : i < f.len) (hp : (decide (0 < (f.kAt i).len) && P (f.lAt i) (f.kAt i).len) = false) : (f.tk (i + 1)).spread P = ((f.tk i).spread P).app (cons (f.hAt i) (f.lAt i) (f.kAt i) nil) := by
  rw [tk_succ f h, spread_app]
  congr 1
  simp only [spread]
  rw [if_neg (by rw [hp]; simp)]
theorem spread_none (f : Fo) : f.spread (fun _ _ => false) = f := by
  induction f with
  | nil => rfl
  | cons h l k r _ ih => simp only [spread, ih]; simp
end Fo
/-- What becomes of a node whose kids are tidy already. -/
def tidyF (h l : Int) (k : Fo) : Int × Int × Fo :=
  if k.len = 0 then (h, l, k) else if k.len = 1 then (k.hAt 0, k.lAt 0, k.kAt 0)
  else if l = 1 then (h, 1, k.spread fun x _ => x == 1) else if l = (k.len : Int) then (h, ((k.spread fun x y => x == (y : Int)).len : Int), k.spread fun x y => x == (y : Int)) else (h, l, k)
theorem tidyF_size (h l : Int) (k : Fo) : (tidyF h l k).2.2.size ≤ k.size := by
  unfold tidyF
  split
  · exact Nat.le_refl _
  · split
    · next q _ => have := k.k_size (i := 0) (by omega); show (k.kAt 0).size ≤ _; omega
    · split
      · exact Fo.spread_size _ _
      · split
        · exact Fo.spread_size _ _
        · exact Nat.le_refl _
theorem tidy_size : ∀ f : Fo, (f.re tidyF).size ≤ f.size
  | .nil => Nat.le_refl _
  | .cons h l k r => by
    have h1 := tidyF_size h l (k.re tidyF)
    have h2 := tidy_size k
    have h3 := tidy_size r
    simp only [Fo.re, Fo.size]
    omega
theorem tidy_forms (n : Int) : Forms n tidyF := fun h l k hg => by
  unfold tidyF
  split
  · exact hg
  · next q0 =>
    obtain ⟨h1, h2, h3, h4⟩ := (gform_some (by omega)).1 hg
    split
    · next q => exact Fo.form_get h4 (by omega)
    · split
      · have := Fo.spread_pos (fun x _ => x == 1) k (by omega)
        exact (gform_some this).2 ⟨h1, Int.le_refl _, by show (1 : Int) ≤ _; omega, Fo.spread_form _ h4⟩
      · split
        · have := Fo.spread_pos (fun x y => x == (y : Int)) k (by omega)
          exact (gform_some this).2 ⟨h1, by show (1 : Int) ≤ ((k.spread _).len : Int); omega, Int.le_refl _, Fo.spread_form _ h4⟩
        · exact hg
theorem NVs.app {W : World} {ok : Nat → Prop} {f g : Fo} {xs ys : List Value} (h : NVs W ok f f.len xs) (hl : xs.length = f.len) (hg : NVs W ok g g.len ys) : NVs W ok (f.app g) (f.app g).len (xs ++ ys) := by
  intro j hj
  rw [Fo.app_len] at hj
  by_cases e : j < f.len
  · obtain ⟨u, h1, h2⟩ := h j e
    obtain ⟨e1, e2, e3⟩ := Fo.app_left f g e
    exact ⟨u, by rw [List.getElem?_append_left (by omega)]; exact h1, by rw [e1, e2, e3]; exact h2⟩
  · obtain ⟨i, rfl⟩ : ∃ i, j = f.len + i := ⟨j - f.len, by omega⟩
    obtain ⟨u, h1, h2⟩ := hg i (by omega)
    obtain ⟨e1, e2, e3⟩ := Fo.app_right f g i
    exact ⟨u, by rw [List.getElem?_append_right (by omega), hl, Nat.add_sub_cancel_left]; exact h1, by rw [e1, e2, e3]; exact h2⟩
theorem NAt.list {W : World} {ok : Nat → Prop} {f : Fo} {b o : Nat} (h : NAt W ok f b o) : ∃ ys : List Value, ys.length = f.len ∧ NVs W ok f f.len ys ∧ ∀ j u, ys[j]? = some u → W.cell? ((⟨b, o, none⟩ : Addr).add j) = some u := by
  induction f generalizing o with
  | nil => exact ⟨[], rfl, fun j hj => absurd hj (Nat.not_lt_zero _), fun j u hj => by simp at hj⟩
  | cons x l k r _ ih =>
    obtain ⟨ys, h1, h2, h3⟩ := ih h.2
    obtain ⟨v, c1, c2⟩ := h.1
    refine ⟨v :: ys, by simp [Fo.len, h1], fun j hj => ?_, fun j u hj => ?_⟩
    · cases j with
      | zero => exact ⟨v, rfl, c2⟩
      | succ j =>
        obtain ⟨u, q1, q2⟩ := h2 j (by simp [Fo.len] at hj; omega)
        exact ⟨u, by simpa using q1, q2⟩
    · cases j with
      | zero => simp at hj; subst hj; rw [add_plain]; exact c1
      | succ j =>
        have := h3 j u (by simpa using hj)
        rw [add_plain] at this ⊢
        rw [show o + (j + 1) = o + 1 + j by omega]
        exact this
end Go.Proofs.Ytjhggglaglpgfaa

/- Rows modulo a prime: what they span, reduction by columns, and that it has one result. -/
import Derived.Test.YtnebkhelobpkpaaPrm
namespace Go.Proofs.Ytnebkhelobpkpaa
open Go.RowKit Go.Deep
set_option linter.unusedVariables false

/-- Lists that rows from q on make, modulo p. -/
inductive Sp (p : Int) (n m : Nat) (f : Nat → Nat → Int) (q : Nat) : (Nat → Int) → Prop
  | zero (v : Nat → Int) : (∀ j, j < n → p ∣ v j) → Sp p n m f q v
  | add (v u : Nat → Int) (i : Nat) (c : Int) : q ≤ i → i < m → Sp p n m f q u → (∀ j, j < n → p ∣ v j - (u j + c * f i j)) → Sp p n m f q v

section
variable {p : Int} {n m : Nat} {f f' g g' : Nat → Nat → Int} {q : Nat} {v u : Nat → Int}

theorem dvd_of {p x y : Int} (h : p ∣ y) (e : x = y) : p ∣ x := e ▸ h

theorem Sp.congr (h : Sp p n m f q u) (e : ∀ j, j < n → p ∣ v j - u j) : Sp p n m f q v := by
  cases h with
  | zero _ h => exact .zero _ fun j hj => dvd_of (Int.dvd_add (e j hj) (h j hj)) (by omega)
  | add _ u' i c h1 h2 h3 h4 => exact .add _ u' i c h1 h2 h3 fun j hj => dvd_of (Int.dvd_add (e j hj) (h4 j hj)) (by omega)
theorem Sp.plus (h : Sp p n m f q v) (k : Sp p n m f q u) : Sp p n m f q (fun j => v j + u j) := by
  induction h with
  | zero v h => exact k.congr fun j hj => dvd_of (h j hj) (by omega)
  | add v u' i c h1 h2 h3 h4 ih => exact .add _ _ i c h1 h2 ih fun j hj => dvd_of (h4 j hj) (by omega)
theorem Sp.smul (d : Int) (h : Sp p n m f q v) : Sp p n m f q (fun j => d * v j) := by
  induction h with
  | zero v h => exact .zero _ fun j hj => Int.dvd_mul_of_dvd_right (h j hj)
  | add v u' i c h1 h2 h3 h4 ih => exact .add _ _ i (d * c) h1 h2 ih fun j hj => dvd_of (Int.dvd_mul_of_dvd_right (b := d) (h4 j hj)) (by grind)
theorem Sp.row {i : Nat} (h1 : q ≤ i) (h2 : i < m) : Sp p n m f q (f i) := .add _ (fun _ => 0) i 1 h1 h2 (.zero _ fun j _ => Int.dvd_zero _) fun j hj => dvd_of (Int.dvd_zero _) (by omega)
theorem Sp.minus (h : Sp p n m f q v) (k : Sp p n m f q u) : Sp p n m f q (fun j => v j - u j) := (h.plus (k.smul (-1))).congr fun j hj => dvd_of (Int.dvd_zero _) (by omega)
theorem Sp.of_rows {q' : Nat} (h : ∀ i, q' ≤ i → i < m → Sp p n m f q (f' i)) (k : Sp p n m f' q' v) : Sp p n m f q v := by
  induction k with
  | zero v h => exact .zero _ h
  | add v u i c h1 h2 h3 h4 ih => exact (ih.plus ((h i h1 h2).smul c)).congr h4
theorem Sp.zero_at {j : Nat} (hj : j < n) (h : ∀ i, q ≤ i → i < m → p ∣ f i j) (k : Sp p n m f q v) : p ∣ v j := by
  induction k with
  | zero v h => exact h j hj
  | add v u i c h1 h2 h3 h4 ih => exact dvd_of (Int.dvd_add (h4 j hj) (Int.dvd_add ih (Int.dvd_mul_of_dvd_right (b := c) (h i h1 h2)))) (by omega)
theorem Sp.lower {q' : Nat} (hq : q' ≤ q) (h : Sp p n m f q v) : Sp p n m f q' v := Sp.of_rows (fun i h1 h2 => Sp.row (by omega) h2) h
theorem Sp.split (h : Sp p n m f q v) : ∃ c : Int, Sp p n m f (q + 1) (fun j => v j - c * f q j) := by
  induction h with
  | zero v h => exact ⟨0, .zero _ fun j hj => dvd_of (h j hj) (by omega)⟩
  | add v u i c h1 h2 h3 h4 ih =>
    obtain ⟨d, hd⟩ := ih
    by_cases e : i = q
    · subst e
      exact ⟨d + c, hd.congr fun j hj => dvd_of (h4 j hj) (by rw [Int.add_mul]; omega)⟩
    · exact ⟨d, .add _ _ i c (by omega) h2 hd fun j hj => dvd_of (h4 j hj) (by omega)⟩

/-- A column has become the one of the next first element. -/
structure Piv (p : Int) (n m : Nat) (f f' : Nat → Nat → Int) (q k : Nat) : Prop where
  one : p ∣ f' q k - 1
  mem : Sp p n m f q (f' q)
  low : ∀ i, i < q → ∀ j, j < n → p ∣ f' i j - (f i j - f i k * f' q j)
  high : ∀ i, q < i → i < m → Sp p n m f q (f' i) ∧ p ∣ f' i k
  back : ∀ i, q ≤ i → i < m → Sp p n m f' q (f i)

theorem Piv.span {k : Nat} (h : Piv p n m f f' q k) (hk : k < n) : Sp p n m f' (q + 1) v ↔ (Sp p n m f q v ∧ p ∣ v k) := by
  constructor
  · intro s
    exact ⟨Sp.of_rows (fun i h1 h2 => (h.high i (by omega) h2).1) s, s.zero_at hk fun i h1 h2 => (h.high i (by omega) h2).2⟩
  · rintro ⟨s, hv⟩
    obtain ⟨c, hc⟩ := (Sp.of_rows h.back s).split
    have h0 := hc.zero_at hk fun i h1 h2 => (h.high i (by omega) h2).2

    have h1 : p ∣ c := dvd_of (Int.dvd_sub (Int.dvd_sub hv h0) (Int.dvd_mul_of_dvd_right (b := c) h.one)) (by rw [Int.mul_sub]; omega)
    exact hc.congr fun j hj => dvd_of (Int.dvd_mul_of_dvd_left (c := f' q j) h1) (by omega)

/-- The reduction of rows by so many columns. -/
inductive Steps (p : Int) (n m : Nat) (f0 : Nat → Nat → Int) : Nat → (Nat → Nat → Int) → List Nat → Prop
  | start : Steps p n m f0 0 f0 []
  | skip (k : Nat) (f : Nat → Nat → Int) (F : List Nat) : Steps p n m f0 k f F → k < n → (∀ i, F.length ≤ i → i < m → f i k = 0) → Steps p n m f0 (k + 1) f F
  | piv (k : Nat) (f f' : Nat → Nat → Int) (F : List Nat) : Steps p n m f0 k f F → k < n → F.length < m → Piv p n m f f' F.length k → (∀ i, i < m → ∀ j, j < n → Elem p (f' i j)) → Steps p n m f0 (k + 1) f' (F ++ [k])

theorem Steps.elems {f0 : Nat → Nat → Int} {k : Nat} {F : List Nat} (h0 : ∀ i, i < m → ∀ j, j < n → Elem p (f0 i j)) (h : Steps p n m f0 k f F) : ∀ i, i < m → ∀ j, j < n → Elem p (f i j) := by
  induction h with
  | start => exact h0
  | skip k f F h1 h2 h3 ih => exact ih
  | piv k f f' F h1 h2 h3 h4 h5 ih => exact h5
theorem Steps.len {f0 : Nat → Nat → Int} {k : Nat} {F : List Nat} (h : Steps p n m f0 k f F) : F.length ≤ m := by
  induction h with
  | start => exact Nat.zero_le _
  | skip k f F h1 h2 h3 ih => exact ih
  | piv k f f' F h1 h2 h3 h4 h5 ih => simp; omega
theorem Steps.lenk {f0 : Nat → Nat → Int} {k : Nat} {F : List Nat} (h : Steps p n m f0 k f F) : F.length ≤ k ∧ ∀ x, x ∈ F → x < k := by
  induction h with
  | start => simp
  | skip k f F h1 h2 h3 ih => exact ⟨by omega, fun x hx => by have := ih.2 x hx; omega⟩
  | piv k f f' F h1 h2 h3 h4 h5 ih =>
    refine ⟨by simp; omega, fun x hx => ?_⟩
    rcases List.mem_append.1 hx with h | h
    · have := ih.2 x h; omega
    · simp at h; omega

structure Rel (p : Int) (n m : Nat) (f g : Nat → Nat → Int) (k q : Nat) : Prop where
  same : ∀ v, Sp p n m f q v ↔ Sp p n m g q v
  low : ∀ i, i < q → Sp p n m f q (fun j => f i j - g i j)
  zf : ∀ i, q ≤ i → i < m → ∀ j, j < k → p ∣ f i j
  zg : ∀ i, q ≤ i → i < m → ∀ j, j < k → p ∣ g i j

theorem no_piv {k : Nat} (hp : 2 ≤ p) (hk : k < n) (h0 : ∀ i, q ≤ i → i < m → f i k = 0) (hs : ∀ v, Sp p n m f q v ↔ Sp p n m g q v) (h : Piv p n m g g' q k) : False := by
  have h1 := ((hs _).2 h.mem).zero_at hk fun i h1 h2 => by rw [h0 i h1 h2]; exact Int.dvd_zero _
  have h2 : p ∣ 1 := dvd_of (Int.dvd_sub h1 h.one) (by omega)
  have := Int.le_of_dvd (by omega) h2
  omega

theorem steps_rel (hp : 2 ≤ p) {f0 : Nat → Nat → Int} {k : Nat} {F : List Nat} (h : Steps p n m f0 k f F) : ∀ {g : Nat → Nat → Int} {G : List Nat}, Steps p n m f0 k g G → F = G ∧ Rel p n m f g k F.length := by
  induction h with
  | start =>
    intro g G h
    cases h
    exact ⟨rfl, fun v => Iff.rfl, fun i hi => absurd hi (by simp), fun i h1 h2 j hj => absurd hj (Nat.not_lt_zero _), fun i h1 h2 j hj => absurd hj (Nat.not_lt_zero _)⟩
  | skip k f F h1 h2 h3 ih =>
    intro g G h
    cases h with
    | skip _ _ _ e1 e2 e3 =>
      obtain ⟨rfl, r⟩ := ih e1
      refine ⟨rfl, r.same, r.low, fun i a b j hj => ?_, fun i a b j hj => ?_⟩
      · by_cases e : j < k
        · exact r.zf i a b j e
        · obtain rfl : j = k := by omega
          rw [h3 i a b]; exact Int.dvd_zero _
      · by_cases e : j < k
        · exact r.zg i a b j e
        · obtain rfl : j = k := by omega
          rw [e3 i a b]; exact Int.dvd_zero _
    | piv _ g0 _ G e1 e2 e3 e4 e5 =>
      obtain ⟨rfl, r⟩ := ih e1
      exact (no_piv hp h2 h3 r.same e4).elim
  | piv k f f' F h1 h2 h3 h4 h5 ih =>
    intro g G h
    cases h with
    | skip _ _ _ e1 e2 e3 =>
      obtain ⟨rfl, r⟩ := ih e1
      exact (no_piv hp h2 e3 (fun v => (r.same v).symm) h4).elim
    | piv _ g0 _ G e1 e2 e3 e4 e5 =>
      obtain ⟨rfl, r⟩ := ih e1
      have hs : ∀ v, Sp p n m f' (F.length + 1) v ↔ Sp p n m g (F.length + 1) v := fun v => by rw [h4.span h2, e4.span h2, r.same v]
      have hl : (F ++ [k]).length = F.length + 1 := by simp
      refine ⟨rfl, ?_⟩
      rw [hl]
      refine ⟨hs, fun i hi => ?_, fun i a b j hj => ?_, fun i a b j hj => ?_⟩
      · refine (h4.span h2).2 ?_
        by_cases e : i < F.length
        · refine ⟨(((r.low i e).minus (h4.mem.smul (f i k))).plus (((r.same _).2 e4.mem).smul (g0 i k))).congr fun j hj => dvd_of (Int.dvd_sub (h4.low i e j hj) (e4.low i e j hj)) (by omega), ?_⟩
          have a1 := h4.low i e k h2
          have a2 := e4.low i e k h2
          have a3 : p ∣ f' i k := dvd_of (Int.dvd_sub a1 (Int.dvd_mul_of_dvd_right (b := f i k) h4.one)) (by rw [Int.mul_sub]; omega)
          have a4 : p ∣ g i k := dvd_of (Int.dvd_sub a2 (Int.dvd_mul_of_dvd_right (b := g0 i k) e4.one)) (by rw [Int.mul_sub]; omega)
          exact Int.dvd_sub a3 a4
        · obtain rfl : i = F.length := by omega
          exact ⟨h4.mem.minus ((r.same _).2 e4.mem), dvd_of (Int.dvd_sub h4.one e4.one) (by omega)⟩
      · by_cases e : j = k
        · subst e; exact (h4.high i (by omega) b).2
        · exact (h4.high i (by omega) b).1.zero_at (by omega) fun i' a' b' => r.zf i' a' b' j (by omega)
      · by_cases e : j = k
        · subst e; exact (e4.high i (by omega) b).2
        · exact (e4.high i (by omega) b).1.zero_at (by omega) fun i' a' b' => r.zg i' a' b' j (by omega)

/-- REDUCTION HAS ONE RESULT. -/
theorem steps_unique (hp : 2 ≤ p) {f0 : Nat → Nat → Int} {F G : List Nat} (h0 : ∀ i, i < m → ∀ j, j < n → Elem p (f0 i j)) (h : Steps p n m f0 n f F) (k : Steps p n m f0 n g G) :
    F = G ∧ ∀ i, i < F.length → ∀ j, j < n → f i j = g i j := by
  obtain ⟨rfl, r⟩ := steps_rel hp h k
  refine ⟨rfl, fun i hi j hj => ?_⟩
  have hl := h.len
  have hd := (r.low i hi).zero_at hj fun i' a b => r.zf i' a b j hj

  have e1 := h.elems h0 i (by omega) j hj
  have e2 := k.elems h0 i (by omega) j hj
  obtain ⟨a1, a2⟩ := e1
  obtain ⟨b1, b2⟩ := e2
  obtain ⟨d, hd⟩ := hd
  have : d = 0 := by
    rcases Int.lt_trichotomy d 0 with hh | hh | hh
    · have : p * d ≤ p * (-1) := Int.mul_le_mul_of_nonneg_left (by omega) (by omega)
      omega
    · exact hh
    · have : p * 1 ≤ p * d := Int.mul_le_mul_of_nonneg_left (by omega) (by omega)
      omega
  rw [this] at hd
  omega

theorem emod_dvd (x p : Int) : p ∣ x % p - x := ⟨-(x / p), by have := Int.emod_add_mul_ediv x p; rw [Int.mul_neg]; omega⟩

/-- What the program makes of a column: a row with another one added, times an inverse, and all others cleared. -/
theorem piv_prog {k s : Nat} {ic : Int} {t : Nat → Int} (hk : k < n) (hq : q ≤ s) (hs : s < m)
    (ht : (s = q ∧ ∀ j, j < n → t j = f q j) ∨ (s ≠ q ∧ f q k = 0 ∧ ∀ j, j < n → p ∣ t j - (f q j + f s j)))
    (hi : p ∣ t k * ic - 1) (h1 : ∀ j, j < n → p ∣ f' q j - t j * ic) (h2 : ∀ i, i < m → i ≠ q → ∀ j, j < n → p ∣ f' i j - (f i j - f i k * f' q j)) : Piv p n m f f' q k := by
  have hqm : q < m := by omega
  have hone : p ∣ f' q k - 1 := dvd_of (Int.dvd_add (h1 k hk) hi) (by omega)
  have hmem : Sp p n m f q (f' q) := by
    have : Sp p n m f q t := by
      rcases ht with ⟨-, h⟩ | ⟨-, -, h⟩
      · exact (Sp.row (Nat.le_refl _) hqm).congr fun j hj => dvd_of (Int.dvd_zero p) (by rw [h j hj]; omega)
      · exact ((Sp.row (Nat.le_refl _) hqm).plus (Sp.row hq hs)).congr h
    exact (this.smul ic).congr fun j hj => dvd_of (h1 j hj) (by rw [Int.mul_comm ic])
  have hrow : Sp p n m f' q (f' q) := Sp.row (Nat.le_refl _) hqm
  have hoth : ∀ i, q < i → i < m → Sp p n m f' q (f i) := fun i a b =>
    ((Sp.row (f := f') (Nat.le_of_lt a) b).plus (hrow.smul (f i k))).congr fun j hj => dvd_of (Int.dvd_mul_of_dvd_right (b := -1) (h2 i b (by omega) j hj)) (by omega)
  have htb : Sp p n m f' q t := (hrow.smul (t k)).congr fun j hj => by
    have e1 := Int.dvd_mul_of_dvd_right (b := t k) (h1 j hj)
    have e2 := Int.dvd_mul_of_dvd_right (b := t j) hi
    exact dvd_of (Int.dvd_mul_of_dvd_right (b := -1) (Int.dvd_add e1 e2)) (by grind)
  refine ⟨hone, hmem, fun i hi' j hj => h2 i (by omega) (by omega) j hj, fun i a b => ⟨?_, ?_⟩, fun i a b => ?_⟩
  · exact ((Sp.row (Nat.le_of_lt a) b).minus (hmem.smul (f i k))).congr fun j hj => dvd_of (h2 i b (by omega) j hj) rfl
  · exact dvd_of (Int.dvd_sub (h2 i b (by omega) k hk) (Int.dvd_mul_of_dvd_right (b := f i k) hone)) (by rw [Int.mul_sub]; omega)
  · by_cases e : i = q
    · subst e
      rcases ht with ⟨-, h⟩ | ⟨hne, -, h⟩
      · exact htb.congr fun j hj => dvd_of (Int.dvd_zero p) (by rw [h j hj]; omega)
      · exact (htb.minus (hoth s (by omega) hs)).congr fun j hj => dvd_of (Int.dvd_mul_of_dvd_right (b := -1) (h j hj)) (by omega)
    · exact hoth i (by omega) b

/-- What the model makes of a column: two rows exchanged, the one times an inverse, and all others cleared. -/
theorem piv_model {k s : Nat} {ic : Int} (hk : k < n) (hq : q ≤ s) (hs : s < m) (h0 : s ≠ q → f q k = 0)
    (hi : p ∣ f s k * ic - 1) (h1 : ∀ j, j < n → p ∣ f' q j - f s j * ic) (h2 : ∀ i, i < m → i ≠ q → i ≠ s → ∀ j, j < n → p ∣ f' i j - (f i j - f i k * f' q j)) (h3 : s ≠ q → ∀ j, j < n → p ∣ f' s j - f q j) : Piv p n m f f' q k := by
  have hqm : q < m := by omega
  have hone : p ∣ f' q k - 1 := dvd_of (Int.dvd_add (h1 k hk) hi) (by omega)
  have hmem : Sp p n m f q (f' q) := ((Sp.row hq hs).smul ic).congr fun j hj => dvd_of (h1 j hj) (by rw [Int.mul_comm ic])
  have hrow : Sp p n m f' q (f' q) := Sp.row (Nat.le_refl _) hqm
  have hsb : Sp p n m f' q (f s) := (hrow.smul (f s k)).congr fun j hj => by
    have e1 := Int.dvd_mul_of_dvd_right (b := f s k) (h1 j hj)
    have e2 := Int.dvd_mul_of_dvd_right (b := f s j) hi
    exact dvd_of (Int.dvd_mul_of_dvd_right (b := -1) (Int.dvd_add e1 e2)) (by grind)
  refine ⟨hone, hmem, fun i hi' j hj => h2 i (by omega) (by omega) (by omega) j hj, fun i a b => ?_, fun i a b => ?_⟩
  · by_cases e : i = s
    · subst e
      refine ⟨(Sp.row (Nat.le_refl _) hqm).congr (h3 (by omega)), dvd_of (h3 (by omega) k hk) (by rw [h0 (by omega)]; omega)⟩
    · exact ⟨((Sp.row (Nat.le_of_lt a) b).minus (hmem.smul (f i k))).congr fun j hj => dvd_of (h2 i b (by omega) e j hj) rfl,
        dvd_of (Int.dvd_sub (h2 i b (by omega) e k hk) (Int.dvd_mul_of_dvd_right (b := f i k) hone)) (by rw [Int.mul_sub]; omega)⟩
  · by_cases e : i = s
    · subst e; exact hsb
    · by_cases e2 : i = q
      · subst e2
        exact (Sp.row hq hs).congr fun j hj => dvd_of (Int.dvd_mul_of_dvd_right (b := -1) (h3 (by omega) j hj)) (by omega)
      · exact ((Sp.row (f := f') a b).plus (hrow.smul (f i k))).congr fun j hj => dvd_of (Int.dvd_mul_of_dvd_right (b := -1) (h2 i b e2 e j hj)) (by omega)
end
end Go.Proofs.Ytnebkhelobpkpaa

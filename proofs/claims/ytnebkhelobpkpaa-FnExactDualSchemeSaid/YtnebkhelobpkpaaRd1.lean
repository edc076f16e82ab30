/- The echelon of a matrix, as what reduction gives; inverses; steps of both programs on functions. -/
import Derived.Test.YtnebkhelobpkpaaRd0
import Derived.Test.YtnebkhelobpkpaaInc
import Derived.Test.YtnebkhelobpkpaaVm
namespace Go.Proofs.Ytnebkhelobpkpaa
open Go.RowKit Go.Deep
set_option linter.unusedVariables false
namespace Rd

def prmN (n : Nat) : Bool := decide (2 ≤ n) && decide (n ≤ 31) && (List.range n).all fun d => decide (d < 2) || n % d != 0
theorem prm_iff (n : Nat) : Prm (n : Int) ↔ prmN n = true := by
  unfold prmN Prm
  simp only [Bool.and_eq_true, decide_eq_true_eq, List.all_eq_true, List.mem_range, Bool.or_eq_true, bne_iff_ne, ne_eq]
  constructor
  · rintro ⟨h1, h2, h3⟩
    refine ⟨⟨by omega, by omega⟩, fun d hd => ?_⟩
    by_cases e : d < 2
    · exact .inl e
    · exact .inr fun k => h3 d (by omega) (by omega) (by rw [← Int.natCast_emod, k]; rfl)
  · rintro ⟨⟨h1, h2⟩, h3⟩
    refine ⟨by omega, by omega, fun d hd1 hd2 k => ?_⟩
    obtain ⟨m, rfl⟩ : ∃ m : Nat, d = m := ⟨d.toNat, by omega⟩
    rcases h3 m (by omega) with h | h
    · omega
    · rw [← Int.natCast_emod] at k
      exact h (by exact_mod_cast k)
def powN (p a : Nat) : Nat → Nat
  | 0 => 1
  | k + 1 => powN p a k * a % p
theorem powN_of (p a k : Nat) : powOf (p : Int) (a : Int) k = (powN p a k : Nat) := by
  induction k with
  | zero => rfl
  | succ k ih => simp only [powOf, powN, ih, Int.natCast_emod, Int.natCast_mul]
theorem fermat : ∀ p : Fin 32, prmN p.val = true → ∀ a : Fin 32, 0 < a.val → a.val < p.val → (a.val * powN p.val a.val (p.val - 2)) % p.val = 1 := by decide +kernel
/-- The inverse of an element. -/
def inv (p a : Int) : Int := powOf p a (p - 2).toNat
theorem unit {p a : Int} (hp : Prm p) (ha : Elem p a) (h0 : a ≠ 0) : a * inv p a % p = 1 := by
  unfold inv
  obtain ⟨n, rfl⟩ : ∃ n : Nat, p = n := ⟨p.toNat, by have := hp.1; omega⟩
  obtain ⟨m, rfl⟩ : ∃ m : Nat, a = m := ⟨a.toNat, by have := ha.1; omega⟩
  have h1 := hp.2.1
  have h2 := ha.2
  have f1 := fermat ⟨n, by omega⟩ ((prm_iff n).1 hp) ⟨m, by omega⟩ (by simp only; omega) (by simp only; omega)
  simp only at f1
  have hn := hp.1
  rw [powN_of, show ((n : Int) - 2).toNat = n - 2 by omega]
  rw [← Int.natCast_mul, ← Int.natCast_emod, f1]; rfl
theorem unit_dvd {p a : Int} (hp : Prm p) (ha : Elem p a) (h0 : a ≠ 0) : p ∣ a * inv p a - 1 := by
  have h := unit hp ha h0
  have h2 := emod_dvd (a * inv p a) p
  rw [h] at h2
  exact dvd_of (Int.dvd_mul_of_dvd_right (b := -1) h2) (by omega)
theorem inv_elem {p : Int} (hp : 2 ≤ p) (a : Int) : Elem p (inv p a) := powOf_elem hp a _
end Rd

/-- A matrix of elements of any size. -/
structure GoodM (p : Int) (n : Nat) (z : List (List Int)) : Prop where
  prm : Prm p
  hn : n ≤ 1000
  hm : z.length ≤ 1000
  rows : ∀ r, r < z.length → (nthL z r).length = n ∧ Elems p (nthL z r)
theorem GoodM.of {p c : Int} {z : List (List Int)} (h : MatOk p c z) : GoodM p c.toNat z :=
  ⟨h.1, by have := h.2.1.2; omega, by have := h.2.2.1; omega, fun r hr => ⟨by have := (h.2.2.2 r hr).1; omega, (h.2.2.2 r hr).2⟩⟩
/-- A matrix as a function. -/
def fn (z : List (List Int)) : Nat → Nat → Int := fun r j => nth (nthL z r) j
theorem GoodM.elem {p : Int} {n : Nat} {z : List (List Int)} (h : GoodM p n z) : ∀ i, i < z.length → ∀ j, j < n → Elem p (fn z i j) := fun i hi j hj => (h.rows i hi).2 j (by rw [(h.rows i hi).1]; exact hj)
theorem GoodM.tab {p : Int} {n : Nat} {z : List (List Int)} (h : GoodM p n z) : z = tab z.length n (fn z) := tab_of z n fun r hr => (h.rows r hr).1

open Classical in
/-- What reduction gives. -/
noncomputable def redOf (p : Int) (n : Nat) (z : List (List Int)) : (Nat → Nat → Int) × List Nat :=
  if h : ∃ x : (Nat → Nat → Int) × List Nat, Steps p n z.length (fn z) n x.1 x.2 then Classical.choose h else (fn z, [])
/-- The columns of the first elements. -/
noncomputable def echF (p : Int) (n : Nat) (z : List (List Int)) : List Nat := (redOf p n z).2
/-- The echelon. -/
noncomputable def echZ (p : Int) (n : Nat) (z : List (List Int)) : List (List Int) := tab (echF p n z).length n (redOf p n z).1

theorem red_steps {p : Int} {n : Nat} {z : List (List Int)} {f : Nat → Nat → Int} {F : List Nat} (h : Steps p n z.length (fn z) n f F) : Steps p n z.length (fn z) n (redOf p n z).1 (redOf p n z).2 := by
  have hx : ∃ x : (Nat → Nat → Int) × List Nat, Steps p n z.length (fn z) n x.1 x.2 := ⟨(f, F), h⟩
  unfold redOf
  rw [dif_pos hx]
  exact Classical.choose_spec hx
theorem ech_of {p : Int} {n : Nat} {z : List (List Int)} {f : Nat → Nat → Int} {F : List Nat} (hg : GoodM p n z) (h : Steps p n z.length (fn z) n f F) : F = echF p n z ∧ tab F.length n f = echZ p n z := by
  obtain ⟨e, k⟩ := steps_unique hg.prm.1 hg.elem h (red_steps h)
  refine ⟨e, ?_⟩
  unfold echZ echF
  rw [← e]
  exact tab_ext fun c r hc hr => k c hc r hr
theorem ech_elem {p : Int} {n : Nat} {z : List (List Int)} {f : Nat → Nat → Int} {F : List Nat} (hg : GoodM p n z) (h : Steps p n z.length (fn z) n f F) : (echF p n z).length ≤ z.length ∧ (echF p n z).length ≤ n ∧ (∀ x, x ∈ echF p n z → x < n) ∧ ∀ i, i < z.length → ∀ j, j < n → Elem p ((redOf p n z).1 i j) :=
  ⟨(red_steps h).len, (red_steps h).lenk.1, (red_steps h).lenk.2, (red_steps h).elems hg.elem⟩
theorem ech_small (p c : Int) (z : List (List Int)) (h : MatOk p c z) : Small2 (echZ p c.toNat z) := by
  by_cases hx : ∃ x : (Nat → Nat → Int) × List Nat, Steps p c.toNat z.length (fn z) c.toNat x.1 x.2
  · obtain ⟨x, hx⟩ := hx
    have h1 := ech_elem (GoodM.of h) hx
    refine ⟨by unfold echZ; rw [tab_len]; have := h.2.2.1; omega, fun r hr => ?_⟩
    unfold echZ at hr ⊢
    rw [tab_len] at hr
    rw [tab_rlen _ _ _ hr]
    have := h.2.1.2
    omega
  · have : echF p c.toNat z = [] := by unfold echF redOf; rw [dif_neg hx]
    unfold echZ
    rw [this]
    exact ⟨by simp [tab], fun r hr => by simp [tab] at hr⟩
noncomputable def ecSel {α : Type} (p c : Int) (z : List (List Int)) (bad ok : α) : α := if tell (MatOk p c z) = true then ok else bad
theorem ec_bad {α : Type} {p c : Int} {z : List (List Int)} (h : ¬ MatOk p c z) (b o : α) : ecSel p c z b o = b := by unfold ecSel; rw [tell_false h]; rfl
theorem ec_ok {α : Type} {p c : Int} {z : List (List Int)} (h : MatOk p c z) (b o : α) : ecSel p c z b o = o := by unfold ecSel; rw [tell_true h]; rfl
theorem ec_small (p c : Int) (z : List (List Int)) : Small2 (ecSel p c z [] (echZ p c.toNat z)) := by
  by_cases h : MatOk p c z
  · rw [ec_ok h]; exact ech_small p c z h
  · rw [ec_bad h]; exact ⟨by simp, fun r hr => by simp at hr⟩

/-- A row of the program's: increased by another one. -/
def incRow (p : Int) (f : Nat → Nat → Int) (s : Nat) (c : Int) : Nat → Int → Int := fun j x => (x + f s j * c % p) % p
/-- A row times an element. -/
def mulRow (p c : Int) : Nat → Int → Int := fun _ x => x * c % p

theorem chTo_elem {p : Int} {m n : Nat} {f : Nat → Nat → Int} (hf : ∀ i, i < m → ∀ j, j < n → Elem p (f i j)) {h : Nat → Int → Int} (hh : ∀ j x, Elem p (h j x)) (i k : Nat) : ∀ r, r < m → ∀ j, j < n → Elem p (chTo f i k h r j) := by
  intro r hr j hj
  unfold chTo
  split
  · exact hh _ _
  · exact hf r hr j hj
theorem inc_elem {p : Int} (hp : 2 ≤ p) (f : Nat → Nat → Int) (s : Nat) (c : Int) : ∀ j x, Elem p (incRow p f s c j x) := fun j x => mod_elem hp _
theorem mul_elem {p : Int} (hp : 2 ≤ p) (c : Int) : ∀ j x, Elem p (mulRow p c j x) := fun j x => mod_elem hp _

/-- The rows of the program after clearing a column in the first i rows but q. -/
def clrTo (p : Int) (f : Nat → Nat → Int) (n q k i : Nat) : Nat → Nat → Int := fun r j => if r < i ∧ r ≠ q ∧ j < n then (f r j + f q j * ((p - f r k) % p) % p) % p else f r j
theorem clr_zero (p : Int) (f : Nat → Nat → Int) (n q k : Nat) : clrTo p f n q k 0 = f := by funext r j; unfold clrTo; rw [if_neg (by omega)]
theorem clr_same (p : Int) (f : Nat → Nat → Int) (n q k : Nat) : clrTo p f n q k (q + 1) = clrTo p f n q k q := by
  funext r j
  unfold clrTo
  by_cases h : r < q ∧ r ≠ q ∧ j < n
  · rw [if_pos h, if_pos (by omega)]
  · rw [if_neg h, if_neg (by omega)]
theorem clr_row (p : Int) (f : Nat → Nat → Int) (n q k i : Nat) : clrTo p f n q k i q = f q := by funext j; unfold clrTo; rw [if_neg (by omega)]
theorem clr_own (p : Int) (f : Nat → Nat → Int) (n q k i : Nat) : clrTo p f n q k i i = f i := by funext j; unfold clrTo; rw [if_neg (by omega)]
theorem clr_step (p : Int) (f : Nat → Nat → Int) (n q k i : Nat) (hi : i ≠ q) : chTo (clrTo p f n q k i) i n (incRow p (clrTo p f n q k i) q ((p - f i k) % p)) = clrTo p f n q k (i + 1) := by
  funext r j
  unfold chTo incRow
  rw [clr_row]
  by_cases h : r = i ∧ j < n
  · obtain ⟨rfl, hj⟩ := h
    rw [if_pos ⟨rfl, hj⟩, clr_own]
    unfold clrTo
    rw [if_pos (by omega)]
  · rw [if_neg h]
    unfold clrTo
    by_cases h2 : r < i ∧ r ≠ q ∧ j < n
    · rw [if_pos h2, if_pos (by omega)]
    · rw [if_neg h2, if_neg (by omega)]
theorem clr_elem {p : Int} (hp : 2 ≤ p) {m n : Nat} {f : Nat → Nat → Int} (hf : ∀ i, i < m → ∀ j, j < n → Elem p (f i j)) (q k i : Nat) : ∀ r, r < m → ∀ j, j < n → Elem p (clrTo p f n q k i r j) := by
  intro r hr j hj
  unfold clrTo
  split
  · exact mod_elem hp _
  · exact hf r hr j hj

/-- THE PROGRAM'S COLUMN IS A STEP. -/
theorem prog_piv {p : Int} {m n : Nat} (hp : Prm p) {f g : Nat → Nat → Int} {q s k : Nat} (hf : ∀ i, i < m → ∀ j, j < n → Elem p (f i j)) (hk : k < n) (hq : q ≤ s) (hs : s < m) (hn0 : f s k ≠ 0) (hz : ∀ i, q ≤ i → i < s → f i k = 0)
    (hg : g = if s = q then f else chTo f q n (incRow p f s 1)) :
    Piv p n m f (clrTo p (chTo g q n (mulRow p (Rd.inv p (g q k)))) n q k m) q k ∧ g q k ≠ 0 ∧ (∀ i, i < m → ∀ j, j < n → Elem p (g i j)) := by
  have hqm : q < m := by omega
  have hge : ∀ i, i < m → ∀ j, j < n → Elem p (g i j) := by
    rw [hg]
    split
    · exact hf
    · exact chTo_elem hf (inc_elem hp.1 _ _ _) _ _
  have hgo : ∀ i, i ≠ q → ∀ j, g i j = f i j := by
    intro i hi j
    rw [hg]
    split
    · rfl
    · unfold chTo; rw [if_neg (by omega)]
  have ht : (s = q ∧ ∀ j, j < n → g q j = f q j) ∨ (s ≠ q ∧ f q k = 0 ∧ ∀ j, j < n → p ∣ g q j - (f q j + f s j)) := by
    by_cases e : s = q
    · exact .inl ⟨e, fun j hj => by rw [hg, if_pos e]⟩
    · refine .inr ⟨e, hz q (Nat.le_refl _) (by omega), fun j hj => ?_⟩
      rw [hg, if_neg e]
      unfold chTo incRow
      rw [if_pos ⟨rfl, hj⟩]
      exact dvd_of (Int.dvd_add (emod_dvd (f q j + f s j * 1 % p) p) (emod_dvd (f s j * 1) p)) (by omega)
  have hgk : g q k ≠ 0 := by
    rcases ht with ⟨e, h⟩ | ⟨e, h1, h2⟩
    · rw [h k hk, ← e]; exact hn0
    · intro h0
      have h3 := h2 k hk
      rw [h0, h1] at h3
      obtain ⟨d, hd⟩ := h3
      obtain ⟨b0, b1⟩ := hf s hs k hk
      have : p * (-1) < p * d := by omega
      have h4 := Int.lt_of_mul_lt_mul_left this (by have := hp.1; omega)
      have : p * d < p * 0 := by omega
      have h5 := Int.lt_of_mul_lt_mul_left this (by have := hp.1; omega)
      omega
  refine ⟨?_, hgk, hge⟩
  have hrow : ∀ j, j < n → clrTo p (chTo g q n (mulRow p (Rd.inv p (g q k)))) n q k m q j = g q j * Rd.inv p (g q k) % p := fun j hj => by
    rw [clr_row]; unfold chTo mulRow; rw [if_pos ⟨rfl, hj⟩]
  refine piv_prog (t := g q) (ic := Rd.inv p (g q k)) hk hq hs ht (Rd.unit_dvd hp (hge q hqm k hk) hgk) (fun j hj => ?_) (fun i hi hne j hj => ?_)
  · rw [hrow j hj]; exact emod_dvd _ _
  · rw [hrow j hj]
    have e1 : clrTo p (chTo g q n (mulRow p (Rd.inv p (g q k)))) n q k m i j = (f i j + g q j * Rd.inv p (g q k) % p * ((p - f i k) % p) % p) % p := by
      unfold clrTo
      rw [if_pos ⟨hi, hne, hj⟩]
      unfold chTo mulRow
      rw [if_neg (by omega), if_pos ⟨rfl, hj⟩, if_neg (by omega), hgo i hne, hgo i hne]
    rw [e1]
    have d1 := emod_dvd (f i j + g q j * Rd.inv p (g q k) % p * ((p - f i k) % p) % p) p
    have d2 := emod_dvd (g q j * Rd.inv p (g q k) % p * ((p - f i k) % p)) p
    have d3 := Int.dvd_mul_of_dvd_right (b := g q j * Rd.inv p (g q k) % p) (emod_dvd (p - f i k) p)
    have d4 : p ∣ g q j * Rd.inv p (g q k) % p * p := Int.dvd_mul_left _ _
    generalize g q j * Rd.inv p (g q k) % p = y at *
    exact dvd_of (Int.dvd_add (Int.dvd_add d1 d2) (Int.dvd_add d3 d4)) (by rw [Int.mul_sub, Int.mul_sub]; grind)

/-- The rows of the model after the exchange, and the product, and clearing a column in the first i rows. -/
def swp (f : Nat → Nat → Int) (q s : Nat) : Nat → Nat → Int := fun r => if r = q then f s else if r = s then f q else f r
def clmTo (p : Int) (f : Nat → Nat → Int) (n q k i : Nat) : Nat → Nat → Int := fun r j => if r < i ∧ r ≠ q ∧ j < n ∧ f r k ≠ 0 then (f r j + f q j * (p - f r k)) % p else f r j
theorem clm_zero (p : Int) (f : Nat → Nat → Int) (n q k : Nat) : clmTo p f n q k 0 = f := by funext r j; unfold clmTo; rw [if_neg (by omega)]
theorem clm_row (p : Int) (f : Nat → Nat → Int) (n q k i : Nat) : clmTo p f n q k i q = f q := by funext j; unfold clmTo; rw [if_neg (by omega)]
theorem clm_own (p : Int) (f : Nat → Nat → Int) (n q k i : Nat) : clmTo p f n q k i i = f i := by funext j; unfold clmTo; rw [if_neg (by omega)]
theorem clm_skip (p : Int) (f : Nat → Nat → Int) (n q k i : Nat) (h : i = q ∨ f i k = 0) : clmTo p f n q k (i + 1) = clmTo p f n q k i := by
  funext r j
  unfold clmTo
  by_cases e : r = i
  · subst e
    rw [if_neg (by omega), if_neg (by omega)]
  · by_cases h2 : r < i ∧ r ≠ q ∧ j < n ∧ f r k ≠ 0
    · rw [if_pos (by omega), if_pos h2]
    · rw [if_neg (by omega), if_neg h2]
theorem clm_step (p : Int) (f : Nat → Nat → Int) (n q k i : Nat) (hi : i ≠ q) (h0 : f i k ≠ 0) : chTo (clmTo p f n q k i) i n (fun j x => (x + f q j * (p - f i k)) % p) = clmTo p f n q k (i + 1) := by
  funext r j
  unfold chTo
  by_cases h : r = i ∧ j < n
  · obtain ⟨rfl, hj⟩ := h
    rw [if_pos ⟨rfl, hj⟩, clm_own]
    unfold clmTo
    rw [if_pos (by omega)]
  · rw [if_neg h]
    unfold clmTo
    by_cases h2 : r < i ∧ r ≠ q ∧ j < n ∧ f r k ≠ 0
    · rw [if_pos h2, if_pos (by omega)]
    · rw [if_neg h2, if_neg (by omega)]
theorem clm_elem {p : Int} (hp : 2 ≤ p) {m n : Nat} {f : Nat → Nat → Int} (hf : ∀ i, i < m → ∀ j, j < n → Elem p (f i j)) (q k i : Nat) : ∀ r, r < m → ∀ j, j < n → Elem p (clmTo p f n q k i r j) := by
  intro r hr j hj
  unfold clmTo
  split
  · exact mod_elem hp _
  · exact hf r hr j hj
theorem swp_elem {p : Int} {m n : Nat} {f : Nat → Nat → Int} {q s : Nat} (hf : ∀ i, i < m → ∀ j, j < n → Elem p (f i j)) (hq : q < m) (hs : s < m) : ∀ r, r < m → ∀ j, j < n → Elem p (swp f q s r j) := by
  intro r hr j hj
  unfold swp
  split
  · exact hf s hs j hj
  · split
    · exact hf q hq j hj
    · exact hf r hr j hj

/-- THE MODEL'S COLUMN IS A STEP. -/
theorem model_piv {p : Int} {m n : Nat} (hp : Prm p) {f : Nat → Nat → Int} {q s k : Nat} (hf : ∀ i, i < m → ∀ j, j < n → Elem p (f i j)) (hk : k < n) (hq : q ≤ s) (hs : s < m) (hn0 : f s k ≠ 0) (hz : ∀ i, q ≤ i → i < s → f i k = 0) :
    Piv p n m f (clmTo p (chTo (swp f q s) q n (mulRow p (Rd.inv p (f s k)))) n q k m) q k := by
  have hrow : ∀ j, j < n → clmTo p (chTo (swp f q s) q n (mulRow p (Rd.inv p (f s k)))) n q k m q j = f s j * Rd.inv p (f s k) % p := fun j hj => by
    rw [clm_row]; unfold chTo mulRow swp; rw [if_pos ⟨rfl, hj⟩, if_pos rfl]
  have hoth : ∀ i, i ≠ q → ∀ j, chTo (swp f q s) q n (mulRow p (Rd.inv p (f s k))) i j = if i = s then f q j else f i j := fun i hi j => by
    unfold chTo swp; rw [if_neg (by omega), if_neg hi]; split <;> rfl
  have hqr : ∀ j, j < n → chTo (swp f q s) q n (mulRow p (Rd.inv p (f s k))) q j = f s j * Rd.inv p (f s k) % p := fun j hj => by
    unfold chTo mulRow swp; rw [if_pos ⟨rfl, hj⟩, if_pos rfl]
  refine piv_model (s := s) (ic := Rd.inv p (f s k)) hk hq hs (fun h => hz q (Nat.le_refl _) (by omega)) (Rd.unit_dvd hp (hf s hs k hk) hn0) (fun j hj => ?_) (fun i hi hne hns j hj => ?_) (fun hne j hj => ?_)
  · rw [hrow j hj]; exact emod_dvd _ _
  · rw [hrow j hj]
    by_cases h0 : f i k = 0
    · have e1 : clmTo p (chTo (swp f q s) q n (mulRow p (Rd.inv p (f s k)))) n q k m i j = f i j := by
        unfold clmTo
        rw [if_neg (by rw [hoth i hne, if_neg hns]; omega), hoth i hne, if_neg hns]
      rw [e1, h0]
      exact dvd_of (Int.dvd_zero p) (by omega)
    · have e1 : clmTo p (chTo (swp f q s) q n (mulRow p (Rd.inv p (f s k)))) n q k m i j = (f i j + f s j * Rd.inv p (f s k) % p * (p - f i k)) % p := by
        unfold clmTo
        rw [if_pos (by rw [hoth i hne, if_neg hns]; omega), hoth i hne, if_neg hns, hoth i hne, if_neg hns, hqr j hj]
      rw [e1]
      have d1 := emod_dvd (f i j + f s j * Rd.inv p (f s k) % p * (p - f i k)) p
      have d4 : p ∣ f s j * Rd.inv p (f s k) % p * p := Int.dvd_mul_left _ _
      generalize f s j * Rd.inv p (f s k) % p = y at *
      exact dvd_of (Int.dvd_add d1 d4) (by rw [Int.mul_sub]; grind)
  · have e1 : clmTo p (chTo (swp f q s) q n (mulRow p (Rd.inv p (f s k)))) n q k m s j = f q j := by
      unfold clmTo
      rw [if_neg (by rw [hoth s hne, if_pos rfl, hz q (Nat.le_refl _) (by omega)]; omega), hoth s hne, if_pos rfl]
    rw [e1]
    exact dvd_of (Int.dvd_zero p) (by omega)
end Go.Proofs.Ytnebkhelobpkpaa

/- 'laws.FnExactCompletion': for every argument, valid or not, the program's function answers what the model's answers, writes into nothing that it was given, and what it answers owns its memory. No condition. -/
import Derived.Test.YtnebkhelobpkpaaSo0
import Derived.Test.YtnebkhelobpkpaaGti
import Derived.Test.YtnebkhelobpkpaaVm
import Derived.BigQuiet
import Derived.Test.YtnebkhelobpkpaaGos
import Derived.Test.YtnebkhelobpkpaaVs
import Derived.Test.YtnebkhelobpkpaaOw
import Derived.Deep.AppendLies
import Derived.Deep.RegionLaw
import Derived.Deep.CutRange
import Derived.Lib.SliceRun
import Derived.Test.YtnebkhelobpkpaaCp3
import Derived.Deep.RegionHeld3
import Derived.Test.YtnebkhelobpkpaaCc2
import Derived.Test.YtnebkhelobpkpaaTra
import Derived.Test.YtnebkhelobpkpaaGl
namespace Go.Proofs.Ytnebkhelobpkpaa
open Go.RowKit Go.Deep
set_option linter.unusedVariables false

theorem steps_ex {p : Int} {n m : Nat} {f0 : Nat → Nat → Int} (hp : Prm p) (h0 : ∀ i, i < m → ∀ j, j < n → Elem p (f0 i j)) : ∀ k, k ≤ n → ∃ f F, Steps p n m f0 k f F
  | 0, _ => ⟨f0, [], .start⟩
  | k + 1, hk => by
    obtain ⟨f, F, h⟩ := steps_ex hp h0 k (by omega)
    by_cases hz : ∀ i, F.length ≤ i → i < m → f i k = 0
    · exact ⟨f, F, .skip k f F h (by omega) hz⟩
    · have hex : ∃ s, F.length ≤ s ∧ s < m ∧ f s k ≠ 0 := by
        apply Classical.byContradiction
        intro hc
        apply hz
        intro i h1 h2
        apply Classical.byContradiction
        intro h3
        exact hc ⟨i, h1, h2, h3⟩
      obtain ⟨s, ⟨hs1, hs2, hs3⟩, hmin⟩ : ∃ s, (F.length ≤ s ∧ s < m ∧ f s k ≠ 0) ∧ ∀ i, i < s → ¬ (F.length ≤ i ∧ i < m ∧ f i k ≠ 0) := by
        obtain ⟨s0, h1⟩ := hex
        induction s0 using Nat.strongRecOn with
        | ind s ih =>
          by_cases hq : ∃ i, i < s ∧ (F.length ≤ i ∧ i < m ∧ f i k ≠ 0)
          · obtain ⟨i, hi, hh⟩ := hq
            exact ih i hi hh
          · exact ⟨s, h1, fun i hi hh => hq ⟨i, hi, hh⟩⟩
      have hel := h.elems h0
      have hpv := model_piv hp hel (by omega : k < n) hs1 hs2 hs3 (fun i a b => Classical.byContradiction fun h3 => hmin i b ⟨a, by omega, h3⟩)
      refine ⟨_, F ++ [k], .piv k f _ F h (by omega) (by omega) hpv (clm_elem hp.1 (chTo_elem (swp_elem hel (by omega) hs2) (mul_elem hp.1 _) _ _) _ _ _)⟩
theorem red_ok {p : Int} {n : Nat} {z : List (List Int)} (hg : GoodM p n z) : Steps p n z.length (fn z) n (redOf p n z).1 (echF p n z) := by
  obtain ⟨f, F, h⟩ := steps_ex hg.prm hg.elem n (Nat.le_refl _)
  exact red_steps h

theorem nthN_app1 {F G : List Nat} {j : Nat} (h : j < F.length) : nthN (F ++ G) j = nthN F j := by simp [nthN, List.getD, List.getElem?_append_left h]
theorem nthN_app2 {F : List Nat} {k : Nat} : nthN (F ++ [k]) F.length = k := by simp [nthN, List.getD]
/-- What holds along the reduction. -/
structure Red (p : Int) (n m : Nat) (f0 f : Nat → Nat → Int) (k : Nat) (F : List Nat) : Prop where
  len : F.length ≤ m
  lt : ∀ a, a < F.length → nthN F a < k
  rise : ∀ a b, a < b → b < F.length → nthN F a < nthN F b
  one : ∀ a, a < F.length → p ∣ f a (nthN F a) - 1
  off : ∀ a, a < F.length → ∀ i, i < m → i ≠ a → p ∣ f i (nthN F a)
  low : ∀ a, a < F.length → ∀ j, j < nthN F a → p ∣ f a j
  zero : ∀ i, F.length ≤ i → i < m → ∀ j, j < k → p ∣ f i j
  into : ∀ i, i < m → Sp p n m f 0 (f0 i)
  back : ∀ i, i < m → Sp p n m f0 0 (f i)

theorem Steps.red {p : Int} {n m : Nat} {f0 f : Nat → Nat → Int} {k : Nat} {F : List Nat} (h : Steps p n m f0 k f F) : Red p n m f0 f k F := by
  induction h with
  | start => exact ⟨Nat.zero_le _, fun a ha => absurd ha (Nat.not_lt_zero _), fun a b _ hb => absurd hb (Nat.not_lt_zero _), fun a ha => absurd ha (Nat.not_lt_zero _), fun a ha => absurd ha (Nat.not_lt_zero _), fun a ha => absurd ha (Nat.not_lt_zero _), fun i _ _ j hj => absurd hj (Nat.not_lt_zero _), fun i hi => Sp.row (Nat.zero_le _) hi, fun i hi => Sp.row (Nat.zero_le _) hi⟩
  | skip k f F h1 h2 h3 ih =>
    refine ⟨ih.len, fun a ha => by have := ih.lt a ha; omega, ih.rise, ih.one, ih.off, ih.low, fun i a b j hj => ?_, ih.into, ih.back⟩
    by_cases e : j = k
    · subst e; rw [h3 i a b]; exact Int.dvd_zero _
    · exact ih.zero i a b j (by omega)
  | piv k f f' F h1 h2 h3 h4 h5 ih =>
    have hz : ∀ {v : Nat → Int}, Sp p n m f F.length v → ∀ j, j < k → p ∣ v j := fun hs j hj => hs.zero_at (by omega) fun i a b => ih.zero i a b j hj
    have hq : ∀ j, j < k → p ∣ f' F.length j := hz h4.mem
    have hrow : ∀ i, i < F.length → ∀ j, j < k → p ∣ f i j → p ∣ f' i j := fun i hi j hj hd => by
      have e1 := h4.low i hi j (by omega)
      have e2 := Int.dvd_mul_of_dvd_right (b := f i k) (hq j hj)
      exact dvd_of (Int.dvd_add e1 (Int.dvd_sub hd e2)) (by omega)
    have hin : ∀ i, i < m → Sp p n m f' 0 (f i) := fun i hi => by
      by_cases e : i < F.length
      · have r1 : Sp p n m f' 0 (f' i) := Sp.row (Nat.zero_le _) hi
        have r2 : Sp p n m f' 0 (f' F.length) := Sp.row (Nat.zero_le _) h3
        exact (r1.plus (r2.smul (f i k))).congr fun j hj => dvd_of (Int.dvd_mul_of_dvd_right (b := -1) (h4.low i e j hj)) (by omega)
      · exact (h4.back i (by omega) hi).lower (Nat.zero_le _)
    have hba : ∀ i, i < m → Sp p n m f 0 (f' i) := fun i hi => by
      have r0 := h4.mem.lower (Nat.zero_le _)
      rcases Nat.lt_trichotomy i F.length with e | e | e
      · have r1 : Sp p n m f 0 (f i) := Sp.row (Nat.zero_le _) hi
        exact (r1.minus (r0.smul (f i k))).congr fun j hj => dvd_of (h4.low i e j hj) (by omega)
      · subst e; exact r0
      · exact (h4.high i e hi).1.lower (Nat.zero_le _)
    have hl : (F ++ [k]).length = F.length + 1 := by simp
    refine ⟨by rw [hl]; omega, fun a ha => ?_, fun a b hab hb => ?_, fun a ha => ?_, fun a ha i hi hne => ?_, fun a ha j hj => ?_, fun i a b j hj => ?_, fun i hi => Sp.of_rows (fun r _ hr => hin r hr) (ih.into i hi), fun i hi => Sp.of_rows (fun r _ hr => ih.back r hr) (hba i hi)⟩
    · rw [hl] at ha
      by_cases e : a < F.length
      · rw [nthN_app1 e]; have := ih.lt a e; omega
      · obtain rfl : a = F.length := by omega
        rw [nthN_app2]; omega
    · rw [hl] at hb
      have ea : a < F.length := by omega
      rw [nthN_app1 ea]
      by_cases e : b < F.length
      · rw [nthN_app1 e]; exact ih.rise a b hab e
      · obtain rfl : b = F.length := by omega
        rw [nthN_app2]; exact ih.lt a ea
    · rw [hl] at ha
      by_cases e : a < F.length
      · rw [nthN_app1 e]
        have hc := ih.lt a e
        have e1 := h4.low a e (nthN F a) (by omega)
        have e2 := Int.dvd_mul_of_dvd_right (b := f a k) (hq _ hc)
        exact dvd_of (Int.dvd_add e1 (Int.dvd_sub (ih.one a e) e2)) (by omega)
      · obtain rfl : a = F.length := by omega
        rw [nthN_app2]; exact h4.one
    · rw [hl] at ha
      by_cases e : a < F.length
      · rw [nthN_app1 e]
        have hc := ih.lt a e
        rcases Nat.lt_trichotomy i F.length with e2 | e2 | e2
        · exact hrow i e2 _ hc (ih.off a e i hi hne)
        · subst e2; exact hq _ hc
        · exact hz (h4.high i e2 hi).1 _ hc
      · obtain rfl : a = F.length := by omega
        rw [nthN_app2]
        rcases Nat.lt_trichotomy i F.length with e2 | e2 | e2
        · have d1 := h4.low i e2 k h2
          have d2 := Int.dvd_mul_of_dvd_right (b := f i k) h4.one
          exact dvd_of (Int.dvd_sub d1 d2) (by rw [Int.mul_sub]; omega)
        · exact absurd e2 hne
        · exact (h4.high i e2 hi).2
    · rw [hl] at ha
      by_cases e : a < F.length
      · rw [nthN_app1 e] at hj
        have hc := ih.lt a e
        exact hrow a e j (by omega) (ih.low a e j hj)
      · obtain rfl : a = F.length := by omega
        rw [nthN_app2] at hj
        exact hq j hj
    · rw [hl] at a
      by_cases e : j = k
      · subst e; exact (h4.high i (by omega) b).2
      · exact hz (h4.high i (by omega) b).1 j (by omega)

/-! ### Products -/
theorem dot_congr {a b a' b' : Nat → Int} : ∀ n, (∀ j, j < n → a j = a' j ∧ b j = b' j) → dotTo a b n = dotTo a' b' n
  | 0, _ => rfl
  | n + 1, h => by
    simp only [dotTo]
    rw [dot_congr n fun j hj => h j (by omega), (h n (Nat.lt_succ_self n)).1, (h n (Nat.lt_succ_self n)).2]
theorem dot_add (a a' b : Nat → Int) : ∀ n, dotTo (fun j => a j + a' j) b n = dotTo a b n + dotTo a' b n
  | 0 => rfl
  | n + 1 => by simp only [dotTo]; rw [dot_add a a' b n, Int.add_mul]; omega
theorem dot_smul (c : Int) (a b : Nat → Int) : ∀ n, dotTo (fun j => c * a j) b n = c * dotTo a b n
  | 0 => by simp [dotTo]
  | n + 1 => by simp only [dotTo]; rw [dot_smul c a b n, Int.mul_add, Int.mul_assoc]
theorem dot_zero (b : Nat → Int) : ∀ n, dotTo (fun _ => 0) b n = 0
  | 0 => rfl
  | n + 1 => by simp only [dotTo]; rw [dot_zero b n]; omega
theorem dot_zero2 (a : Nat → Int) : ∀ n, dotTo a (fun _ => 0) n = 0
  | 0 => rfl
  | n + 1 => by simp only [dotTo]; rw [dot_zero2 a n]; omega
theorem dot_dvd {p : Int} {a b : Nat → Int} : ∀ n, (∀ j, j < n → p ∣ a j) → p ∣ dotTo a b n
  | 0, _ => Int.dvd_zero _
  | n + 1, h => by
    simp only [dotTo]
    exact Int.dvd_add (dot_dvd n fun j hj => h j (by omega)) (Int.dvd_mul_of_dvd_left (h n (Nat.lt_succ_self n)))
theorem dot_mod {p : Int} {a a' b : Nat → Int} (n : Nat) (h : ∀ j, j < n → p ∣ a j - a' j) : p ∣ dotTo a b n - dotTo a' b n := by
  have h1 := dot_dvd (b := b) n h
  have h2 := dot_add a' (fun j => a j - a' j) b n
  have h3 : dotTo (fun j => a' j + (a j - a' j)) b n = dotTo a b n := dot_congr n fun j _ => ⟨by omega, rfl⟩
  rw [h3] at h2
  exact dvd_of h1 (by omega)
/-- A product with a list that is 0 but at one place, is added. -/
theorem dot_upd (u h : Nat → Int) (c : Nat) (y : Int) : ∀ n, dotTo u (fun j => if j = c then y else h j) n = dotTo u h n + if c < n then u c * (y - h c) else 0
  | 0 => by simp [dotTo]
  | n + 1 => by
    simp only [dotTo]
    rw [dot_upd u h c y n]
    by_cases e : n = c
    · subst e
      rw [if_neg (Nat.lt_irrefl n), if_pos rfl, if_pos (Nat.lt_succ_self n), Int.mul_sub]
      omega
    · rw [if_neg e]
      by_cases e2 : c < n
      · rw [if_pos e2, if_pos (by omega)]; omega
      · rw [if_neg e2, if_neg (by omega)]; omega
/-- A functional that is 0 on rows is 0 on what they span. -/
theorem Sp.dot {p : Int} {n m : Nat} {f : Nat → Nat → Int} {q : Nat} {v : Nat → Int} {b : Nat → Int} (h : ∀ i, q ≤ i → i < m → p ∣ dotTo (f i) b n) (k : Sp p n m f q v) : p ∣ dotTo v b n := by
  induction k with
  | zero v hv => exact dot_dvd n hv
  | add v u i c h1 h2 h3 h4 ih =>
    have e1 := dot_mod (b := b) n h4
    have e2 : dotTo (fun j => u j + c * f i j) b n = dotTo u b n + c * dotTo (f i) b n := by
      rw [dot_add u (fun j => c * f i j) b n, dot_smul]
    rw [e2] at e1
    exact dvd_of (Int.dvd_add e1 (Int.dvd_add ih (Int.dvd_mul_of_dvd_right (b := c) (h i h1 h2)))) (by omega)

theorem sol_other {F : List Nat} {g : Nat → Int} {j : Nat} : ∀ K, (∀ a, a < K → nthN F a ≠ j) → solAt (fun _ => 0) F g K j = 0
  | 0, _ => rfl
  | K + 1, h => by
    rw [sol_next, if_neg (fun e => h K (Nat.lt_succ_self K) e.symm)]
    exact sol_other K fun a ha => h a (by omega)
/-- The product of a row with the solution. -/
theorem sol_dot {p : Int} {n i : Nat} {u : Nat → Int} {F : List Nat} {g : Nat → Int} (hr : ∀ a b, a < b → b < F.length → nthN F a < nthN F b) (hn : ∀ a, a < F.length → nthN F a < n) (h1 : i < F.length → p ∣ u (nthN F i) - 1) (h0 : ∀ a, a < F.length → a ≠ i → p ∣ u (nthN F a)) :
    ∀ K, K ≤ F.length → p ∣ dotTo u (solAt (fun _ => 0) F g K) n - (if i < K then g i else 0)
  | 0, _ => by
    rw [if_neg (Nat.not_lt_zero _)]
    refine dvd_of (Int.dvd_zero p) ?_
    show dotTo u (fun _ => 0) n - 0 = 0
    rw [dot_zero2]; rfl
  | K + 1, hK => by
    have ih := sol_dot (g := g) hr hn h1 h0 K (by omega)
    have hF : solAt (fun _ => 0) F g (K + 1) = fun j => if j = nthN F K then g K else solAt (fun _ => 0) F g K j := by funext j; rfl
    have hz : solAt (fun _ => 0) F g K (nthN F K) = 0 := sol_other K fun a ha => by have := hr a K ha (by omega); omega
    rw [hF, dot_upd, if_pos (hn K (by omega)), hz]
    by_cases e : K = i
    · subst e
      rw [if_neg (Nat.lt_irrefl K)] at ih
      rw [if_pos (Nat.lt_succ_self K)]
      have d := Int.dvd_mul_of_dvd_left (c := g K) (h1 (by omega))
      exact dvd_of (Int.dvd_add ih d) (by simp only [Int.sub_zero, Int.sub_mul, Int.one_mul]; omega)
    · have d := Int.dvd_mul_of_dvd_left (c := g K) (h0 K (by omega) e)
      by_cases e2 : i < K
      · rw [if_pos e2] at ih
        rw [if_pos (by omega)]
        exact dvd_of (Int.dvd_add ih d) (by simp only [Int.sub_zero]; omega)
      · rw [if_neg e2] at ih
        rw [if_neg (by omega)]
        exact dvd_of (Int.dvd_add ih d) (by simp only [Int.sub_zero])

section
variable {p : Int} {n : Nat} {z : List (List Int)} {v : List Int}
theorem bes_fn1 {r j : Nat} (hr : r < z.length) (hl : (nthL z r).length = n) (hj : j < n) : fn (besA z [v] z.length) r j = nth (nthL z r) j := by
  unfold fn
  rw [besA_at _ _ hr, besR, nth_app1 (by rw [hl]; exact hj)]
theorem bes_fn2 {r : Nat} (hr : r < z.length) (hl : (nthL z r).length = n) : fn (besA z [v] z.length) r n = nth v r := by
  unfold fn
  rw [besA_at _ _ hr, besR, nth_app2 (by rw [hl]; exact Nat.le_refl _), hl, Nat.sub_self, colsAt_at _ _ _ (by simp)]
  rfl
/-- THE SOLUTION HAS THE GIVEN PRODUCTS. -/
theorem sol_sat (hg : GoodM p n z) (hn : n ≤ 999) (hl : v.length = z.length) (hv : Elems p v) (hs : SolOk p n z v) : ∀ r, r < z.length → p ∣ dotTo (nth (nthL z r)) (nth (solZ p n z v)) n - nth v r := by
  have hG := bes1_good hg (by omega) hl hv
  have hst := red_ok hG
  have R := hst.red
  have hlen : (besA z [v] z.length).length = z.length := besA_len _ _ _
  rw [hlen] at R
  obtain ⟨f, hf⟩ : ∃ f, (redOf p (n + 1) (besA z [v] z.length)).1 = f := ⟨_, rfl⟩
  rw [hf] at R
  have hSF : solF p n z v = echF p (n + 1) (besA z [v] z.length) := rfl
  unfold SolOk at hs
  rw [hSF] at hs
  have hSG : ∀ i, i < (echF p (n + 1) (besA z [v] z.length)).length → solG p n z v i = f i n := fun i hi => by
    unfold solG echZ
    rw [tab_at _ _ _ hi (Nat.lt_succ_self n), hf]
  have hZ : ∀ j, j < n → nth (solZ p n z v) j = solAt (fun _ => 0) (echF p (n + 1) (besA z [v] z.length)) (solG p n z v) (echF p (n + 1) (besA z [v] z.length)).length j := fun j hj => by
    unfold solZ
    rw [rowOf_at _ _ hj]
    rfl
  generalize echF p (n + 1) (besA z [v] z.length) = F at *
  have hFn : ∀ a, a < F.length → nthN F a < n := fun a ha => by have := R.lt a ha; have := hs a ha; omega
  -- the functional: the product with the solution, less the value
  have hphi : ∀ i, i < z.length → p ∣ dotTo (f i) (solAt (fun _ => 0) F (solG p n z v) F.length) n - f i n := fun i hi => by
    by_cases e : i < F.length
    · have h := sol_dot (u := f i) (g := solG p n z v) (i := i) R.rise hFn (fun _ => R.one i e) (fun a ha hne => R.off a ha i hi (fun q => hne q.symm)) F.length (Nat.le_refl _)
      rw [if_pos e, hSG i e] at h
      exact h
    · have h1 := R.zero i (by omega) hi n (Nat.lt_succ_self n)
      have h2 := dot_dvd (b := solAt (fun _ => 0) F (solG p n z v) F.length) n (fun j hj => R.zero i (by omega) hi j (by omega))
      exact Int.dvd_sub h2 h1
  have hW : ∀ u : Nat → Int, dotTo u (fun j => if j = n then -1 else solAt (fun _ => 0) F (solG p n z v) F.length j) (n + 1) = dotTo u (solAt (fun _ => 0) F (solG p n z v) F.length) n - u n := fun u => by
    simp only [dotTo, ↓reduceIte]
    rw [dot_congr (a' := u) (b' := solAt (fun _ => 0) F (solG p n z v) F.length) n (fun j hj => ⟨rfl, by rw [if_neg (by omega)]⟩)]
    omega
  intro r hr
  have hrl := (hg.rows r hr).1
  have h := Sp.dot (b := fun j => if j = n then -1 else solAt (fun _ => 0) F (solG p n z v) F.length j) (fun i _ hi => by rw [hW]; exact hphi i hi) (R.into r hr)
  rw [hW, bes_fn2 hr hrl] at h
  rw [dot_congr (a' := fn (besA z [v] z.length) r) (b' := solAt (fun _ => 0) F (solG p n z v) F.length) n (fun j hj => ⟨(bes_fn1 hr hrl hj).symm, hZ j hj⟩)]
  exact h
/-- WHERE THERE ARE ELEMENTS WITH THE GIVEN PRODUCTS, THE REDUCTION FINDS SOME. -/
theorem sol_find (hg : GoodM p n z) (hn : n ≤ 999) (hl : v.length = z.length) (hv : Elems p v) (x : Nat → Int) (hx : ∀ r, r < z.length → p ∣ dotTo (nth (nthL z r)) x n - nth v r) : SolOk p n z v := by
  have hG := bes1_good hg (by omega) hl hv
  have R := (red_ok hG).red
  have hlen : (besA z [v] z.length).length = z.length := besA_len _ _ _
  rw [hlen] at R
  have hp := hg.prm.1
  unfold SolOk
  show ∀ k, k < (echF p (n + 1) (besA z [v] z.length)).length → nthN (echF p (n + 1) (besA z [v] z.length)) k ≠ n
  generalize echF p (n + 1) (besA z [v] z.length) = F at *
  generalize (redOf p (n + 1) (besA z [v] z.length)).1 = f at *
  intro k hk e
  have hkm : k < z.length := by have := R.len; omega
  have hW : ∀ u : Nat → Int, dotTo u (fun j => if j = n then -1 else x j) (n + 1) = dotTo u x n - u n := fun u => by
    simp only [dotTo, ↓reduceIte]
    rw [dot_congr (a' := u) (b' := x) n (fun j hj => ⟨rfl, by rw [if_neg (by omega)]⟩)]
    omega
  have h := Sp.dot (b := fun j => if j = n then -1 else x j) (fun i _ hi => by
    have hrl := (hg.rows i hi).1
    rw [hW, bes_fn2 hi hrl, dot_congr (a' := nth (nthL z i)) (b' := x) n (fun j hj => ⟨bes_fn1 hi hrl hj, rfl⟩)]
    exact hx i hi) (R.back k hkm)
  rw [hW] at h
  have h1 := R.one k hk
  rw [e] at h1
  have h2 := dot_dvd (b := x) n (fun j hj => R.low k hk j (by rw [e]; exact hj))
  have h3 : p ∣ 1 := dvd_of (Int.dvd_sub (Int.dvd_sub h2 h) h1) (by omega)
  have := Int.le_of_dvd (by omega) h3
  omega
end
theorem solZ_elems {p : Int} {n : Nat} {z : List (List Int)} {v : List Int} (hg : GoodM p n z) (hn : n ≤ 999) (hl : v.length = z.length) (hv : Elems p v) : Elems p (solZ p n z v) := fun i hi => by
  have hG := bes1_good hg (by omega) hl hv
  have hst := red_ok hG
  have hp := hg.prm.1
  rw [solZ_len] at hi
  unfold solZ
  rw [rowOf_at _ _ hi]
  refine sol_elem i (h0 := ⟨Int.le_refl _, by show (0 : Int) < p; omega⟩) _ fun k hk => ?_
  unfold solG echZ
  have hk' : k < (echF p (n + 1) (besA z [v] z.length)).length := hk
  rw [tab_at _ _ _ hk' (show n < n + 1 by omega)]
  exact hst.elems hG.elem k (by have := hst.len; omega) n (show n < n + 1 by omega)
/-- Sums exchanged. -/
theorem dot_swap (e d : Nat → Int) (g : Nat → Nat → Int) (n : Nat) : ∀ m, dotTo e (fun r => dotTo (g r) d n) m = dotTo (fun j => dotTo (fun r => g r j) e m) d n
  | 0 => by
    show (0 : Int) = dotTo (fun j => 0) d n
    rw [dot_zero]
  | m + 1 => by
    show dotTo e (fun r => dotTo (g r) d n) m + e m * dotTo (g m) d n = dotTo (fun j => dotTo (fun r => g r j) e m + g m j * e m) d n
    rw [dot_swap e d g n m, dot_add (fun j => dotTo (fun r => g r j) e m) (fun j => g m j * e m) d n, ← dot_smul (e m) (g m) d n]
    congr 1
    exact dot_congr n fun j _ => ⟨Int.mul_comm _ _, rfl⟩
end Go.Proofs.Ytnebkhelobpkpaa

namespace Go.Proofs.Ytnebkhelobpkpaa
open Go.RowKit Go.Deep
set_option linter.unusedVariables false

theorem dotTo_bound {a b : Nat → Int} {p : Int} (hp1 : p ≤ 31) (n : Nat) (ha : ∀ j, j < n → Elem p (a j)) (hb : ∀ j, j < n → Elem p (b j)) : ∀ k, k ≤ n → 0 ≤ dotTo a b k ∧ dotTo a b k ≤ 961 * k := by
  intro k
  induction k with
  | zero => intro _; simp [dotTo]
  | succ k ih =>
    intro hk
    obtain ⟨h1, h2⟩ := ih (by omega)
    obtain ⟨h3, h4⟩ := mul_bounds hp1 (ha k (by omega)) (hb k (by omega))
    simp only [dotTo]
    omega
theorem dotTo_congr {a b a' b' : Nat → Int} (n : Nat) (h : ∀ j, j < n → a j = a' j ∧ b j = b' j) : ∀ k, k ≤ n → dotTo a b k = dotTo a' b' k := by
  intro k
  induction k with
  | zero => intro _; rfl
  | succ k ih => intro hk; simp only [dotTo]; rw [ih (by omega), (h k (by omega)).1, (h k (by omega)).2]

set_option maxRecDepth 100000 in
set_option maxHeartbeats 1000000 in
theorem l03Dot_any (p : Int) (a b : Option Addr) (xs ys : List Int) (ca cb : Nat) (w : World) (hp : 2 ≤ p) (hp1 : p ≤ 31) (ha : Ints w a xs) (hb : Ints w b ys) (hl : xs.length = ys.length) (hl1 : xs.length ≤ 1000) (hx : Elems p xs) (hy : Elems p ys) :
    Calls Try.prog 138 #[.int .i64 p, .slice a xs.length ca, .slice b ys.length cb] w fun e w' => e = .returned (.int .i64 (dotTo (nth xs) (nth ys) xs.length % p)) ∧ Quiet w w' := by
  have HX := Lib.hid hx
  have HY := Lib.hid hy
  have HL := Lib.hid hl
  have HA := Lib.hid ha
  have HB := Lib.hid hb
  have hp0 : p ≠ 0 := by omega
  clear ha hb hx hy
  go_enter Try.func138, Try.ntmps138
  go_wp2_with fail
  go_loopw [7, 8] (fun s i wr => ∃ k : Nat, k ≤ xs.length ∧ i = .int .i64 k ∧ s = .int .i64 (dotTo (nth xs) (nth ys) k) ∧ Quiet w wr)
    (fun _ i _ => xs.length - (intOf i).toNat)
  case atStart => exact ⟨0, Nat.zero_le _, rfl, rfl, Quiet.refl _⟩
  case round =>
    obtain ⟨k, hk, rfl, rfl, hq⟩ := hrel
    have HQ := Lib.hid hq
    clear hq
    obtain ⟨s0, s1⟩ := dotTo_bound hp1 xs.length HX.out (fun j hj => HY.out j (by have := HL.out; omega)) k hk
    by_cases hlt : k < xs.length
    · have hlt2 : k < ys.length := by have := HL.out; omega
      rcases HA.out.quiet HQ.out with h | ⟨b1, o1, rfl, hc1⟩
      · rw [h] at hlt; exact absurd hlt (Nat.not_lt_zero _)
      rcases HB.out.quiet HQ.out with h | ⟨b2, o2, rfl, hc2⟩
      · rw [h] at hlt2; exact absurd hlt2 (Nat.not_lt_zero _)
      have d1 := hc1 k hlt
      have d2 := hc2 k hlt2
      have hk1 : (k : Int) < (xs.length : Int) := by omega
      have hk2 : (k : Int) < (ys.length : Int) := by omega
      obtain ⟨m0, m1⟩ := mul_bounds hp1 (HX.out k hlt) (HY.out k hlt2)
      have HS := Lib.hid (show dotTo (nth xs) (nth ys) (k + 1) = dotTo (nth xs) (nth ys) k + nth xs k * nth ys k from rfl)
      generalize hu : dotTo (nth xs) (nth ys) k = u at *
      generalize nth xs k = x at *
      generalize nth ys k = y at *
      clear hc1 hc2 hu
      go_wp2_with fail
      go_quiet (fail)
      go_wp2_with fail
      go_roundw
      case rel => exact ⟨k + 1, by omega, by go_num, by rw [HS.out], HQ.out.trans ⟨_, rfl⟩⟩
      case measure => simp [intOf]; omega
    · have HE := Lib.hid (show k = xs.length by omega)
      go_wp2_with fail
      go_ret
      exact ⟨by rw [← HE.out]; rfl, HQ.out⟩
end Go.Proofs.Ytnebkhelobpkpaa

namespace Go.Proofs.Ytnebkhelobpkpaa
open Go.RowKit Go.Deep Go.Joins
set_option linter.unusedVariables false

theorem dot_comm2 (a b : Nat → Int) : ∀ k, dotTo a b k = dotTo b a k
  | 0 => rfl
  | k + 1 => by simp only [dotTo]; rw [dot_comm2 a b k, Int.mul_comm]
/-- THE ELEMENTS THAT MAKE THE FIRST COLUMN'S LIST GIVE THE FIRST ELEMENT OF A SOLUTION. -/
theorem rebuild_eq {p : Int} {n : Nat} {z : List (List Int)} {v : List Int} (hg : GoodM p n z) (h0 : 0 < n) (hn : n ≤ 999) (hz : z.length ≤ 999) (hl : v.length = z.length) (hv : Elems p v) (h1 : SolOk p z.length (turned z n) (fstL n)) (h2 : SolOk p n z v) :
    dotTo (nth (solZ p z.length (turned z n) (fstL n))) (nth v) z.length % p = nth (solZ p n z v) 0 := by
  have hp := hg.prm.1
  have htl : (turned z n).length = n := by unfold turned; rw [tab_len]
  have s1 := sol_sat (turned_good hg (by omega)) hz (by rw [htl, fstL_len]) (fstL_elems hp n) h1
  have s2 := sol_sat hg hn hl hv h2
  have e2 := solZ_elems hg hn hl hv 0 (by rw [solZ_len]; exact h0)
  generalize nth (solZ p z.length (turned z n) (fstL n)) = e at *
  generalize nth (solZ p n z v) = d at *
  rw [htl] at s1
  have a1 : p ∣ dotTo (nth v) e z.length - dotTo (fun r => dotTo (nth (nthL z r)) d n) e z.length := dot_mod z.length fun r hr => dvd_of (Int.dvd_mul_of_dvd_right (b := -1) (s2 r hr)) (by omega)
  rw [dot_comm2 (fun r => dotTo (nth (nthL z r)) d n) e, dot_swap e d (fun r => nth (nthL z r)) n z.length] at a1
  have a2 : p ∣ dotTo (fun j => dotTo (fun r => nth (nthL z r) j) e z.length) d n - dotTo (fun j => if j = 0 then 1 else (0 : Int)) d n := dot_mod n fun j hj => by
    have h := s1 j hj
    have h3 : nth (fstL n) j = if j = 0 then 1 else 0 := by unfold fstL; rw [rowOf_at _ _ hj]; rfl
    rw [h3] at h
    rw [dot_congr (a' := nth (nthL (turned z n) j)) (b' := e) z.length (fun r hr => ⟨by unfold turned; rw [tab_at _ _ _ hj hr], rfl⟩)]
    exact h
  rw [dot_comm2 (fun j => if j = 0 then 1 else (0 : Int)) d, dot_upd d (fun _ => 0) 0 1 n, dot_zero2, if_pos h0] at a2
  rw [dot_comm2 e (nth v)]
  have a3 : p ∣ dotTo (nth v) e z.length - d 0 := dvd_of (Int.dvd_add a1 a2) (by simp only [Int.sub_zero, Int.mul_one]; omega)
  obtain ⟨b0, b1⟩ := e2
  have hm := Int.emod_emod_of_dvd (dotTo (nth v) e z.length) (Int.dvd_refl p)
  have h3 := Int.emod_eq_emod_iff_emod_sub_eq_zero.2 (Int.emod_eq_zero_of_dvd a3)
  rw [h3, Int.emod_eq_of_lt b0 b1]

/-- What a matrix and shares give: b as for bad ones, e where the group does not open, d where the shares are not consistent, else o. -/
noncomputable def rbSel {α : Type} (f : Int) (n : Nat) (Z : List (List Int)) (hs : List Int) (b e d o : α) : α := if tell (SolOk f Z.length (turned Z n) (fstL n)) = true then (if tell (SolOk f n Z hs) = true then o else d) else e
noncomputable def rbV (h f l : Int) (yo : List Int) (z : List (List Int)) (gs hs : List Int) : Int := if wiCode h f l yo z gs hs = 0 then rbSel f l.toNat (partZ yo z gs) hs 0 0 0 (nth (solZ f l.toNat (partZ yo z gs) hs) 0) else 0
noncomputable def rbC (h f l : Int) (yo : List Int) (z : List (List Int)) (gs hs : List Int) : Int := if wiCode h f l yo z gs hs = 0 then rbSel f l.toNat (partZ yo z gs) hs 0 6 4 0 else wiCode h f l yo z gs hs

end Go.Proofs.Ytnebkhelobpkpaa

namespace Go.Proofs.Ytnebkhelobpkpaa
open Go.RowKit Go.Deep Go.Joins
set_option linter.unusedVariables false

/-- All but the first of a slice of numbers of a call's own, or nothing. -/
def OwnD (w : World) (base : Nat) (v : Value) (zs : List Int) : Prop :=
  ∃ a c, v = .slice a zs.length c ∧ (zs = [] ∨ ∃ (g cap : Nat) (y : Int), a = some ⟨g, 1, none⟩ ∧ OwnI w base (.slice (some ⟨g, 0, none⟩) (zs.length + 1) cap) (y :: zs))
/-- What gives such a slice and a code. -/
structure GivesTail (W : World) (zs : List Int) (code : Int) (e : Ending) (w' : World) : Prop where
  val : ∃ v, e = .returned (.tuple #[v, .int .i64 code]) ∧ OwnD w' W.heap.size v zs
  below : Below W.heap.size W w'
theorem OwnD.nil (w : World) (base : Nat) (a : Option Addr) (c : Nat) : OwnD w base (.slice a 0 c) [] := ⟨a, c, rfl, .inl rfl⟩
theorem OwnD.mono {w : World} {base base' : Nat} {v : Value} {zs : List Int} (h : OwnD w base v zs) (hb : base' ≤ base) : OwnD w base' v zs := by
  obtain ⟨a, c, e, h⟩ := h
  refine ⟨a, c, e, ?_⟩
  rcases h with h | ⟨g, cap, y, h1, h2⟩
  · exact .inl h
  · exact .inr ⟨g, cap, y, h1, h2.mono hb⟩
theorem OwnD.step {w w' : World} {base : Nat} {v : Value} {zs : List Int} (h : OwnD w base v zs) (hb : Below w.heap.size w w') : OwnD w' base v zs := by
  obtain ⟨a, c, e, h⟩ := h
  refine ⟨a, c, e, ?_⟩
  rcases h with h | ⟨g, cap, y, h1, h2⟩
  · exact .inl h
  · exact .inr ⟨g, cap, y, h1, h2.step hb⟩
theorem Touch.ownD {lo hi : Nat} {w w' : World} (h : Touch lo hi w w') {base : Nat} {v : Value} {zs : List Int} (k : OwnD w base v zs) (hb : hi ≤ base) : OwnD w' base v zs := by
  obtain ⟨a, c, e, k⟩ := k
  refine ⟨a, c, e, ?_⟩
  rcases k with k | ⟨g, cap, y, h1, h2⟩
  · exact .inl k
  · exact .inr ⟨g, cap, y, h1, h.own h2 hb⟩
theorem OwnD.form {w : World} {base : Nat} {v : Value} {zs : List Int} (h : OwnD w base v zs) : ∃ a c, v = .slice a zs.length c := by
  obtain ⟨a, c, e, _⟩ := h
  exact ⟨a, c, e⟩
theorem Ints_of_ownD {w : World} {base n c : Nat} {a : Option Addr} {zs : List Int} (h : OwnD w base (.slice a n c) zs) : Ints w a zs := by
  obtain ⟨a', c', e, h⟩ := h
  cases e
  rcases h with h | ⟨g, cap, y, h1, h2⟩
  · exact .inl h
  · subst h1
    refine .inr ⟨g, 1, rfl, fun i hi => ?_⟩
    have h3 := World.ownsRow.cellAt h2 (1 + i) (by simp; omega)
    rw [h3]
    simp [vals, Nat.add_comm 1 i, hi, nth_lt hi]
theorem OwnD.ints {w : World} {base : Nat} {v : Value} {zs : List Int} (h : OwnD w base v zs) (hl : zs.length ≤ 1048576) : ∃ a c, v = .slice a zs.length c ∧ Ints w a zs ∧ zs.length ≤ 9223372036854775807 := by
  obtain ⟨a, c, rfl⟩ := h.form
  exact ⟨a, c, rfl, Ints_of_ownD h, by omega⟩
theorem OwnD.lower {w : World} {base : Nat} {n c : Nat} {zs : List Int} {g : Nat} {y : Int} {cap : Nat} (h : OwnI w base (.slice (some ⟨g, 0, none⟩) n cap) (y :: zs)) (hn : n = zs.length + 1) : OwnD w base (.slice (some ⟨g, 1, none⟩) zs.length c) zs := by
  subst hn
  exact ⟨_, _, rfl, .inr ⟨g, cap, y, rfl, h⟩⟩
/-- What marks such a slice. -/
structure MarkedD (W : World) (base : Nat) (v : Value) (zs : List Int) (k : Int) (e : Ending) (w' : World) : Prop where
  val : e = .returned (.int .i64 (k + zs.length))
  own : OwnD w' base v (marks k zs.length)
  below : Below base W w'
theorem half_stepD (y : Int) (k : Int) (zs : List Int) {j : Nat} (h : j < zs.length) : (vals (y :: (marks k j ++ zs.drop j))).set (1 + j) (.int .i64 (k + j)) = vals (y :: (marks k (j + 1) ++ zs.drop (j + 1))) := by
  rw [Nat.add_comm 1 j]
  show (Value.int .i64 y :: vals (marks k j ++ zs.drop j)).set (j + 1) _ = Value.int .i64 y :: vals _
  rw [List.set_cons_succ, half_step k zs h]
set_option maxRecDepth 100000 in
set_option maxHeartbeats 400000 in
theorem markD_any (v : Value) (zs : List Int) (base : Nat) (k : Int) (w : World) (ho : OwnD w base v zs) (hk0 : 0 ≤ k) (hk1 : k ≤ 1152921504606846976) (hl : zs.length ≤ 1152921504606846976) :
    Calls Try.prog 30 #[v, .int .i64 k] w (MarkedD w base v zs k) := by
  obtain ⟨a, c, rfl, ho⟩ := ho
  rcases ho with rfl | ⟨g, cap, y, rfl, ho⟩
  · go_enter Try.func30, Try.ntmps30
    go_wp2_with fail
    go_rounds 1
    go_ret
    exact ⟨by simp, OwnD.nil _ _ _ _, Below.refl _ _⟩
  · have HO := Lib.hid ho
    have hbg : base ≤ g ∧ g < w.heap.size := ho.lt rfl
    clear ho
    go_enter Try.func30, Try.ntmps30
    go_wp2_with fail
    go_loopw [1, 5] (fun q i wr => ∃ j : Nat, j ≤ zs.length ∧ i = .int .i64 j ∧ q = .int .i64 (k + j) ∧ wr.ownsRow base 2 1 (.slice (some ⟨g, 0, none⟩) (zs.length + 1) cap) (zs.length + 1) (vals (y :: (marks k j ++ zs.drop j))) ∧ Below base w wr)
      (fun _ i _ => zs.length - (intOf i).toNat)
    case atStart => exact ⟨0, Nat.zero_le _, rfl, by simp, by have h1 := HO.out; unfold OwnI at h1; simpa [marks] using h1, Below.refl _ _⟩
    case round =>
      obtain ⟨j, hj, rfl, rfl, hown, hbe⟩ := hrel
      by_cases hlt : j < zs.length
      · have hlen : (vals (y :: (marks k j ++ zs.drop j))).length = zs.length + 1 := by simp [vals, marks_len]; omega
        have hc0 := hown.cellAt (1 + j) (by omega)
        rw [List.getElem?_eq_getElem (by rw [hlen]; omega)] at hc0
        have hfr := hown.frozenAt (1 + j)
        have hi0 : (j : Int) < (zs.length : Int) := by omega
        obtain ⟨hst1, hst2⟩ := hown.stored (1 + j) (.int .i64 (k + j))
        rw [half_stepD y k zs hlt] at hst1
        have H1 := Lib.hid hst1
        have H2 := Lib.hid (show Below base w (wr.setCell ⟨g, 1 + j, none⟩ (.int .i64 (k + j))) from hbe.setCell (p := ⟨g, 1 + j, none⟩) hbg.1 _)
        generalize (vals (y :: (marks k j ++ zs.drop j)))[1 + j]'(by rw [hlen]; omega) = u0 at hc0
        clear hown hst1 hst2 hbe hlen
        go_wp2_with fail
        go_roundw
        case rel => exact ⟨j + 1, by omega, by go_num, by go_num, H1.out, H2.out⟩
        case measure => simp [intOf]; omega
      · have e : j = zs.length := by omega
        have HE := Lib.hid e
        have HW := Lib.hid hown
        have HB := Lib.hid hbe
        clear e hown hbe
        go_wp2_with fail
        go_ret
        refine ⟨by rw [HE.out]; rfl, ⟨_, _, by rw [marks_len], .inr ⟨g, cap, y, rfl, ?_⟩⟩, HB.out⟩
        have h1 := HW.out
        rw [HE.out, List.drop_length, List.append_nil] at h1
        unfold OwnI
        rw [List.length_cons, marks_len]
        exact h1
end Go.Proofs.Ytnebkhelobpkpaa

namespace Go.Proofs.Ytnebkhelobpkpaa
open Go.RowKit Go.Deep Go.Joins Go.ChangeShapes Go.WideShapes Go.ChangeAt
set_option linter.unusedVariables false

/-- The shares of the first rows. -/
def shTo (f l : Int) (z : List (List Int)) (x : Int) (bl : List Int) (n : Nat) : List Int := (List.range n).map fun i => dotTo (nth (nthL z i)) (nth (x :: bl)) l.toNat % f
theorem shTo_len (f l : Int) (z : List (List Int)) (x : Int) (bl : List Int) (n : Nat) : (shTo f l z x bl n).length = n := by simp [shTo]
theorem shTo_snoc (f l : Int) (z : List (List Int)) (x : Int) (bl : List Int) (n : Nat) : shTo f l z x bl (n + 1) = shTo f l z x bl n ++ [dotTo (nth (nthL z n)) (nth (x :: bl)) l.toNat % f] := by simp [shTo, List.range_succ]
theorem alx_b (w : World) (o : Obj) : Below w.heap.size w (w.alloc o) := (Below.refl _ _).alloc (Nat.le_refl _) o

end Go.Proofs.Ytnebkhelobpkpaa

namespace Go.Proofs.Ytnebkhelobpkpaa
open Go.RowKit Go.Deep
set_option linter.unusedVariables false

/-- What a scheme, a secret and blinds give: b for a bad scheme, r for values out of range, else o. -/
noncomputable def shSel {α : Type} (h f l : Int) (yo : List Int) (z : List (List Int)) (x : Int) (bl : List Int) (b r o : α) : α := if tell (SchOk h yo f l z) = true then (if tell (Elem f x ∧ RowOk f (l - 1) bl) = true then o else r) else b
noncomputable def shZs (h f l : Int) (yo : List Int) (z : List (List Int)) (x : Int) (bl : List Int) : List Int := shSel h f l yo z x bl [] [] (shTo f l z x bl z.length)
noncomputable def shCode (h f l : Int) (yo : List Int) (z : List (List Int)) (x : Int) (bl : List Int) : Int := shSel h f l yo z x bl 1 2 0
theorem sh_bad {α : Type} {h f l : Int} {yo : List Int} {z : List (List Int)} {x : Int} {bl : List Int} (k : tell (SchOk h yo f l z) = false) (b r o : α) : shSel h f l yo z x bl b r o = b := by rw [shSel, k]; rfl
theorem sh_rng {α : Type} {h f l : Int} {yo : List Int} {z : List (List Int)} {x : Int} {bl : List Int} (k : tell (SchOk h yo f l z) = true) (q : ¬ (Elem f x ∧ RowOk f (l - 1) bl)) (b r o : α) : shSel h f l yo z x bl b r o = r := by rw [shSel, k, tell_false q]; rfl
theorem sh_ok {α : Type} {h f l : Int} {yo : List Int} {z : List (List Int)} {x : Int} {bl : List Int} (k : tell (SchOk h yo f l z) = true) (q : Elem f x ∧ RowOk f (l - 1) bl) (b r o : α) : shSel h f l yo z x bl b r o = o := by rw [shSel, k, tell_true q]; rfl
theorem shZs_len (h f l : Int) (yo : List Int) (z : List (List Int)) (x : Int) (bl : List Int) : (shZs h f l yo z x bl).length ≤ 1048576 := by
  unfold shZs shSel
  split
  · next q =>
    split
    · rw [shTo_len]; have := (of_tell q).2.1.2.2.1; omega
    · simp
  · simp

end Go.Proofs.Ytnebkhelobpkpaa

namespace Go.Proofs.Ytnebkhelobpkpaa
open Go.RowKit Go.Deep
set_option linter.unusedVariables false

noncomputable def prSel {α : Type} (p c : Int) (z : List (List Int)) (q d : Int) (y : List (List Int)) (bad rng ok : α) : α :=
  if tell (MatOk p c z ∧ MatOk q d y) = true then (if p = q ∧ c = (y.length : Int) then ok else rng) else bad
theorem pr_bad {α : Type} {p c q d : Int} {z y : List (List Int)} (h : ¬ (MatOk p c z ∧ MatOk q d y)) (b r o : α) : prSel p c z q d y b r o = b := by unfold prSel; rw [tell_false h]; rfl
theorem pr_rng {α : Type} {p c q d : Int} {z y : List (List Int)} (h : MatOk p c z ∧ MatOk q d y) (h2 : ¬ (p = q ∧ c = (y.length : Int))) (b r o : α) : prSel p c z q d y b r o = r := by unfold prSel; rw [tell_true h, if_pos rfl, if_neg h2]
theorem pr_ok {α : Type} {p c q d : Int} {z y : List (List Int)} (h : MatOk p c z ∧ MatOk q d y) (h2 : p = q ∧ c = (y.length : Int)) (b r o : α) : prSel p c z q d y b r o = o := by unfold prSel; rw [tell_true h, if_pos rfl, if_pos h2]
theorem prod_len (z y : List (List Int)) (p : Int) (cn n : Nat) : (prod z y p cn n).length = z.length := tab_len _ _ _
theorem prod_rlen (z y : List (List Int)) (p : Int) (cn n : Nat) {r : Nat} (h : r < z.length) : (nthL (prod z y p cn n) r).length = n := tab_rlen _ _ _ h
theorem prod_small {p c q d : Int} {z y : List (List Int)} (h : MatOk p c z) (h2 : MatOk q d y) (m : Int) (cn : Nat) : Small2 (prod z y m cn d.toNat) := ⟨by rw [prod_len]; have := h.2.2.1; omega, fun r hr => by rw [prod_len] at hr; rw [prod_rlen _ _ _ _ _ hr]; have := h2.2.1.2; omega⟩
theorem pr_small (p c : Int) (z : List (List Int)) (q d : Int) (y : List (List Int)) : Small2 (prSel p c z q d y [] [] (prod z y p c.toNat d.toNat)) := by
  have h0 : Small2 [] := ⟨by simp, fun r hr => absurd hr (Nat.not_lt_zero _)⟩
  by_cases h : MatOk p c z ∧ MatOk q d y
  · by_cases h2 : p = q ∧ c = (y.length : Int)
    · rw [pr_ok h h2]; exact prod_small h.1 h.2 _ _
    · rw [pr_rng h h2]; exact h0
  · rw [pr_bad h]; exact h0
theorem matr_small2 {p c : Int} {z : List (List Int)} (h : MatOk p c z) : Small2 z := ⟨by have := h.2.2.1; omega, fun r hr => by have := (h.2.2.2 r hr).1; have := h.2.1.2; omega⟩
end Go.Proofs.Ytnebkhelobpkpaa

namespace Go.Proofs.Ytnebkhelobpkpaa
open Go.RowKit Go.Deep
set_option linter.unusedVariables false

theorem OwnG.grid2 {W : World} {base n c : Nat} {p : Int} {a : Option Addr} {us : List Value} {zss : List (List Int)} (h : OwnG W base p (.slice a n c) us zss) : GridR W a p zss := by
  obtain ⟨a', c', e, hr⟩ := h.grid
  cases e
  exact hr
theorem gtimesI_any (p c d : Int) (cn on : Nat) (a b : Option Addr) (ca cb : Nat) (z y : List (List Int)) (w : World) (hc : c = (cn : Int)) (hd : d = (on : Int)) (hp : 2 ≤ p) (hp1 : p ≤ 31) (hr : GridR w a p z) (hr' : GridR w b p y) (hz1 : z.length ≤ 1000) (hcn : cn ≤ 1000) (hon : on ≤ 1000)
    (hrow : ∀ r, r < z.length → (nthL z r).length = cn ∧ Elems p (nthL z r)) (hy : y.length = cn) (hrow' : ∀ r, r < y.length → (nthL y r).length = on ∧ Elems p (nthL y r)) :
    Calls Try.prog 104 #[.agg #[.slice a z.length ca, .int .i64 p, .int .i64 c], .agg #[.slice b y.length cb, .int .i64 p, .int .i64 d]] w fun e w' => (∃ v us, e = .returned (.agg #[v, .int .i64 p, .int .i64 d]) ∧ OwnG w' w.heap.size p v us (prod z y p cn on)) ∧ Below w.heap.size w w' := by
  subst hc; subst hd
  exact gtimes_any p cn on a b ca cb z y w hp hp1 hr hr' hz1 hcn hon hrow hy hrow'

end Go.Proofs.Ytnebkhelobpkpaa

namespace Go.Proofs.Ytnebkhelobpkpaa
open Go.RowKit Go.Deep Go.Joins
set_option linter.unusedVariables false

set_option maxRecDepth 100000 in
set_option maxHeartbeats 1000000 in
theorem gridOfLists_any (p c : Int) (a : Option Addr) (zss : List (List Int)) (cc : Nat) (w : World) (hr : Rows2 w a zss) (hs : Small2 zss) :
    Calls Try.prog 75 #[.int .i64 p, .int .i64 c, .slice a zss.length cc] w fun e w' => (∃ v us, e = .returned (.agg #[v, .int .i64 p, .int .i64 c]) ∧ OwnG w' w.heap.size p v us zss) ∧ Below w.heap.size w w' := by
  have hb1 := (Below.refl w.heap.size w).alloc (Nat.le_refl _) (.cells #[.slice none 0 0, .int .i64 0, .int .i64 0] 102)
  have hx1 : Boxes (w.alloc (.cells #[.slice none 0 0, .int .i64 0, .int .i64 0] 102)) w.heap.size 102 #[.slice none 0 0, .int .i64 0, .int .i64 0] := World.alloc_heap_new w _
  have HR := Lib.hid (hr.below hb1 (Nat.le_refl _))
  have HS := Lib.hid hs
  have HB := Lib.hid hb1
  have HX := Lib.hid hx1
  have hsz : (w.alloc (.cells #[.slice none 0 0, .int .i64 0, .int .i64 0] 102)).heap.size = w.heap.size + 1 := by simp
  clear hr hs hb1 hx1
  go_enter Try.func75, Try.ntmps75
  go_wp2_with fail
  refine (gridOf_any p c a zss cc _ HR.out HS.out).mono ?_
  generalize w.alloc (.cells #[.slice none 0 0, .int .i64 0, .int .i64 0] 102) = w1 at *
  rintro e w2 ⟨⟨v, us, rfl, ho⟩, hb⟩
  have HX2 := Lib.hid (HX.out.step hb)
  have HB2 := Lib.hid (HB.out.trans (hb.mono HB.out.size))
  have HO := Lib.hid ho
  obtain ⟨va, vc, rfl⟩ := ho.form
  have c0 := HX2.out.m0
  have c1 := HX2.out.m1
  have c2 := HX2.out.m2
  have f0 := HX2.out.frozen 0
  have f1 := HX2.out.frozen 1
  have f2 := HX2.out.frozen 2
  have hlt := HX2.out.lt
  clear ho hb
  go_wp2_with fail
  refine bodyPost_ret (v := .agg #[.slice va zss.length vc, .int .i64 p, .int .i64 c]) (by simp [results, Try.results75, go_sem, c0, c1, c2]) rfl ⟨⟨_, us, rfl, ?_⟩, ?_⟩
  · exact (((HO.out.setCell2 (p := ⟨w.heap.size, 0, none⟩) (by show w.heap.size < w1.heap.size; omega) _).setCell2 (p := ⟨w.heap.size, 1, none⟩) (by show w.heap.size < w1.heap.size; omega) _).setCell2 (p := ⟨w.heap.size, 2, none⟩) (by show w.heap.size < w1.heap.size; omega) _).mono (by omega)
  · exact ((HB2.out.setCell (p := ⟨w.heap.size, 0, none⟩) (Nat.le_refl _) _).setCell (p := ⟨w.heap.size, 1, none⟩) (Nat.le_refl _) _).setCell (p := ⟨w.heap.size, 2, none⟩) (Nat.le_refl _) _
end Go.Proofs.Ytnebkhelobpkpaa

namespace Go.Proofs.Ytnebkhelobpkpaa
open Go.RowKit Go.Deep Go.Joins
set_option linter.unusedVariables false

theorem sh_tlen (z : List (List Int)) (n : Nat) : (turned z n).length = n := tab_len _ _ _
theorem sh_trow {z : List (List Int)} {n : Nat} {f : Int} (hz : ∀ r, r < z.length → (nthL z r).length = n ∧ Elems f (nthL z r)) : ∀ r, r < (turned z n).length → (nthL (turned z n) r).length = z.length ∧ Elems f (nthL (turned z n) r) := fun r hr => by
  rw [sh_tlen] at hr
  have h1 : (nthL (turned z n) r).length = z.length := tab_rlen _ _ _ hr
  refine ⟨h1, fun i hi => ?_⟩
  rw [h1] at hi
  rw [turned, tab_at _ _ _ hr hi]
  exact (hz i hi).2 r (by rw [(hz i hi).1]; exact hr)
theorem dot_comm (a b : Nat → Int) : ∀ k, dotTo a b k = dotTo b a k
  | 0 => rfl
  | k + 1 => by simp only [dotTo]; rw [dot_comm a b k, Int.mul_comm]
theorem sh_row0 (f : Int) (z : List (List Int)) (x : Int) (bl : List Int) (n : Nat) : nthL (prod [x :: bl] (turned z n) f n z.length) 0 = shTo f (n : Int) z x bl z.length := by
  unfold prod
  rw [tab_row _ _ _ (by simp)]
  unfold shTo
  refine List.map_congr_left fun c hc => ?_
  have hc' : c < z.length := by simpa using hc
  show dotTo (nth (x :: bl)) (fun q => nth (nthL (turned z n) q) c) n % f = _
  rw [Int.toNat_natCast, dot_comm]
  rw [dotTo_congr (a' := nth (nthL z c)) (b' := nth (x :: bl)) n (fun j hj => ⟨by show nth (nthL (turned z n) j) c = _; unfold turned; rw [tab_at _ _ _ hj hc'], rfl⟩) n (Nat.le_refl _)]
theorem sh_first {W : World} {base : Nat} {v : Value} {us : List Value} {pz : List (List Int)} (h : Own W base v us pz) (h1 : pz.length = 1) : ∃ (g c : Nat) (ua : Option Addr) (uc : Nat), v = .slice (some ⟨g, 0, none⟩) 1 c ∧ W.cell? ⟨g, 0, none⟩ = some (.slice ua (nthL pz 0).length uc) ∧ OwnI W base (.slice ua (nthL pz 0).length uc) (nthL pz 0) ∧ g < W.heap.size := by
  obtain ⟨g, c, rfl, hg0, hg1⟩ := h.row.form (by omega)
  have hu : us.length = 1 := by rw [h.rows.len]; exact h1
  have hc := World.ownsRow.cellAt h.row 0 (by omega)
  rw [List.getElem?_eq_getElem (by omega)] at hc
  have ho := h.rows.own 0 us[0] pz[0] (by simp [hu]) (by simp [h1])
  have e : nthL pz 0 = pz[0] := nthL_lt (by omega)
  rw [← e] at ho
  obtain ⟨ua, uc, hv⟩ := rowForm ho
  rw [hv] at hc ho
  exact ⟨g, c, ua, uc, by rw [h1], hc, ho, hg1⟩
theorem run_field_g (v : Value) (p c : Int) (w : World) : Sem.run Try.prog (Instr.field 102 (.agg #[v, .int .i64 p, .int .i64 c]) 0) w = .ok v w := by
  simp [Instr.field, asAgg, go_sem]
theorem gridOf2 {W : World} {base n c : Nat} {p : Int} {a : Option Addr} {us : List Value} {zss : List (List Int)} (h : OwnG W base p (.slice a n c) us zss) : GridR W a p zss := h.grid2
end Go.Proofs.Ytnebkhelobpkpaa

namespace Go.Proofs.Ytnebkhelobpkpaa
open Go.RowKit Go.Deep
set_option linter.unusedVariables false

/-- A box of one type. -/
def IsBox (W : World) (B : Nat) (t : TypeId) : Prop := ∃ vs, W.heap[B]? = some (.cells vs t (0, 0))
theorem Boxes.is {W : World} {B : Nat} {t : TypeId} {vs : Array Value} (h : Boxes W B t vs) : IsBox W B t := ⟨vs, h⟩
theorem IsBox.set {W : World} {B : Nat} {t : TypeId} (h : IsBox W B t) (b o : Nat) (u : Value) : IsBox (W.setCell ⟨b, o, none⟩ u) B t := by
  obtain ⟨vs, hv⟩ := h
  by_cases e : b = B
  · subst e
    refine ⟨vs.setIfInBounds o u, ?_⟩
    simp [World.setCell, Array.getElem?_modify, hv]
  · exact ⟨vs, by rw [Below.heap_setCell _ _ _ B (fun q => e q.symm)]; exact hv⟩
theorem IsBox.step {W W' : World} {B : Nat} {t : TypeId} (h : IsBox W B t) (hb : Below W.heap.size W W') : IsBox W' B t := by
  obtain ⟨vs, hv⟩ := h
  exact ⟨vs, (hb.block B (Array.getElem?_eq_some_iff.1 hv).1).trans hv⟩
theorem row_setb {W : World} {base e size k B o : Nat} {t : TypeId} {v : Value} {xs : List Value} (h : W.ownsRow base e size v k xs) (hx : IsBox W B t) (he : e ≠ t) (u : Value) : (W.setCell ⟨B, o, none⟩ u).ownsRow base e size v k xs := by
  refine h.kept ⟨rfl, rfl, rfl, (KeepsWalks.setCell W _ u).size, fun q _ hq => Below.heap_setCell _ _ _ q (fun e => hq (by rw [e]))⟩ (row := some B) ?_
  rcases h.2 with ⟨rfl, _⟩ | ⟨g, cap, cur, rfl, hg, hgb, _⟩
  · exact .inl rfl
  · refine .inr fun e' => ?_
    obtain rfl : g = B := by simpa [Value.ownBlock] using e'
    obtain ⟨vs, hv⟩ := hx
    rw [hgb] at hv; cases hv; exact he rfl
theorem rows_setb {W : World} {base B o : Nat} {t : TypeId} {us : List Value} {z : List (List Int)} (h : RowsOwn W base us z) (hx : IsBox W B t) (he : 2 ≠ t) (u : Value) : RowsOwn (W.setCell ⟨B, o, none⟩ u) base us z := h.map fun _ _ k => row_setb k hx he u
theorem rows_oneS {W : World} {base : Nat} {us : List Value} {z : List (List Int)} (h : RowsOwn W base us z) : ∀ u ∈ us, u.oneCell' = true := fun u hu => by
  obtain ⟨i, hi, rfl⟩ := List.mem_iff_getElem.1 hu
  obtain ⟨a, c, e⟩ := (h.own i us[i] (z[i]'(by rw [← h.len]; exact hi)) (by simp [hi]) (by simp)).form
  rw [e]; rfl
theorem Boxes.all3 {W : World} {B : Nat} {t : TypeId} {u0 u1 u2 : Value} (h : Boxes W B t #[u0, u1, u2]) (x0 x1 x2 : Value) : Boxes (((W.setCell ⟨B, 0, none⟩ x0).setCell ⟨B, 1, none⟩ x1).setCell ⟨B, 2, none⟩ x2) B t #[x0, x1, x2] := by
  unfold Boxes at h ⊢
  simp [World.setCell, Array.getElem?_modify, h]
/-- Rows, and others behind them. -/
theorem rows2_cat {W : World} {B1 B2 B3 n c : Nat} {a : Option Addr} {us us2 : List Value} {z y : List (List Int)} (hr : W.ownsRow B1 35 1 (.slice a n c) (z.length + y.length) (us ++ us2)) (h1 : RowsOwn W B2 us z) (h2 : RowsOwn W B3 us2 y) :
    n = (z ++ y).length ∧ Rows2 W a (z ++ y) := by
  obtain ⟨a', c', e⟩ := rowForm hr
  cases e
  refine ⟨by simp, ?_⟩
  rcases hr.2 with ⟨hv, hn⟩ | ⟨g, cap, cur, hv, _⟩
  · exact .inl (List.eq_nil_of_length_eq_zero (by simpa using hn))
  · cases hv
    refine .inr ⟨g, 0, rfl, fun i hi => ?_⟩
    rw [Nat.zero_add, World.ownsRow.cellAt hr i (by simpa using hi)]
    by_cases hz : i < z.length
    · have hu : i < us.length := by rw [h1.len]; exact hz
      obtain ⟨a2, c2, e2, hI, _⟩ := (h1.own i us[i] z[i] (by simp [hu]) (by simp [hz])).ints
      have e3 : nthL (z ++ y) i = z[i] := by rw [nthL_lt hi]; simp [hz]
      rw [e3, List.getElem?_append_left hu, List.getElem?_eq_getElem hu, e2]
      exact ⟨a2, c2, rfl, hI⟩
    · have hy : i - z.length < y.length := by simp at hi; omega
      have hu : i - us.length < us2.length := by rw [h2.len, h1.len]; exact hy
      obtain ⟨a2, c2, e2, hI, _⟩ := (h2.own (i - us.length) us2[i - us.length] (y[i - z.length]) (by simp [hu]) (by rw [h1.len]; simp [hy])).ints
      have e3 : nthL (z ++ y) i = y[i - z.length] := by rw [nthL_lt hi, List.getElem_append_right (by omega)]
      rw [e3, List.getElem?_append_right (by rw [h1.len]; omega), List.getElem?_eq_getElem hu, e2]
      exact ⟨a2, c2, rfl, hI⟩

theorem RowsOwn.cat {W : World} {B M : Nat} {us us2 : List Value} {z y : List (List Int)} (h1 : RowsOwn W B us z) (h2 : RowsOwn W M us2 y) (hB : B ≤ M) (hlt : ∀ u ∈ us, ∀ b, u.ownBlock = some b → b < M) : RowsOwn W B (us ++ us2) (z ++ y) := by
  refine ⟨by simp [h1.len, h2.len], fun i u zs e1 e2 => ?_, ?_⟩
  · by_cases hi : i < us.length
    · rw [List.getElem?_append_left hi] at e1
      rw [List.getElem?_append_left (by rw [← h1.len]; exact hi)] at e2
      exact h1.own i u zs e1 e2
    · rw [List.getElem?_append_right (by omega)] at e1
      rw [List.getElem?_append_right (by rw [← h1.len]; omega), ← h1.len] at e2
      exact (h2.own _ u zs e1 e2).mono hB
  · refine List.pairwise_append.2 ⟨h1.sep, h2.sep, fun u1 hu1 u2 hu2 b b' e1 e2 => ?_⟩
    obtain ⟨i, hi, rfl⟩ := List.mem_iff_getElem.1 hu2
    have h3 := (h2.own i us2[i] (y[i]'(by rw [← h2.len]; exact hi)) (by simp [hi]) (by simp)).lt e2
    have := hlt u1 hu1 b e1
    omega
/-- What two matrices one over the other give. -/
noncomputable def skSel {α : Type} (p c : Int) (z : List (List Int)) (q d : Int) (y : List (List Int)) (bad rng lim ok : α) : α :=
  if tell (MatOk p c z ∧ MatOk q d y) = true then (if p = q ∧ c = d then (if z.length + y.length ≤ 20 then ok else lim) else rng) else bad
theorem sk_bad {α : Type} {p c q d : Int} {z y : List (List Int)} (h : ¬ (MatOk p c z ∧ MatOk q d y)) (b r l o : α) : skSel p c z q d y b r l o = b := by unfold skSel; rw [tell_false h]; rfl
theorem sk_rng {α : Type} {p c q d : Int} {z y : List (List Int)} (h : MatOk p c z ∧ MatOk q d y) (h2 : ¬ (p = q ∧ c = d)) (b r l o : α) : skSel p c z q d y b r l o = r := by unfold skSel; rw [tell_true h, if_pos rfl, if_neg h2]
theorem sk_lim {α : Type} {p c q d : Int} {z y : List (List Int)} (h : MatOk p c z ∧ MatOk q d y) (h2 : p = q ∧ c = d) (h3 : ¬ z.length + y.length ≤ 20) (b r l o : α) : skSel p c z q d y b r l o = l := by unfold skSel; rw [tell_true h, if_pos rfl, if_pos h2, if_neg h3]
theorem sk_ok {α : Type} {p c q d : Int} {z y : List (List Int)} (h : MatOk p c z ∧ MatOk q d y) (h2 : p = q ∧ c = d) (h3 : z.length + y.length ≤ 20) (b r l o : α) : skSel p c z q d y b r l o = o := by unfold skSel; rw [tell_true h, if_pos rfl, if_pos h2, if_pos h3]
theorem mat_small3 {p c : Int} {z : List (List Int)} (h : MatOk p c z) : Small2 z := ⟨by have := h.2.2.1; omega, fun r hr => by have := (h.2.2.2 r hr).1; have := h.2.1.2; omega⟩
theorem nthL_cat (z y : List (List Int)) {r : Nat} (h : r < (z ++ y).length) : nthL (z ++ y) r = if r < z.length then nthL z r else nthL y (r - z.length) := by
  split
  · next hz => rw [nthL_lt h, nthL_lt hz]; simp [hz]
  · next hz => rw [nthL_lt h, nthL_lt (show r - z.length < y.length by simp at h; omega), List.getElem_append_right (by omega)]
theorem mat_cat {p c : Int} {z y : List (List Int)} (h1 : MatOk p c z) (h2 : MatOk p c y) : MatOk p c (z ++ y) ↔ z.length + y.length ≤ 20 := by
  refine ⟨fun h => by have := h.2.2.1; simpa using this, fun h => ⟨h1.1, h1.2.1, by simpa using h, fun r hr => ?_⟩⟩
  rw [nthL_cat z y hr]
  split
  · next hz => exact h1.2.2.2 r hz
  · next hz => exact h2.2.2.2 _ (by simp at hr; omega)
theorem small_cat {p c q d : Int} {z y : List (List Int)} (h1 : MatOk p c z) (h2 : MatOk q d y) : Small2 (z ++ y) := by
  refine ⟨by have := h1.2.2.1; have := h2.2.2.1; simp; omega, fun r hr => ?_⟩
  rw [nthL_cat z y hr]
  split
  · next hz => exact (mat_small3 h1).2 r hz
  · next hz => exact (mat_small3 h2).2 _ (by simp at hr; omega)
theorem sk_small (p c : Int) (z : List (List Int)) (q d : Int) (y : List (List Int)) : Small2 (skSel p c z q d y [] [] [] (z ++ y)) := by
  have h0 : Small2 [] := ⟨by simp, fun r hr => absurd hr (Nat.not_lt_zero _)⟩
  unfold skSel
  split
  · next h =>
    split
    · split
      · exact small_cat (of_tell h).1 (of_tell h).2
      · exact h0
    · exact h0
  · exact h0

end Go.Proofs.Ytnebkhelobpkpaa

namespace Go.Proofs.Ytnebkhelobpkpaa
open Go.RowKit Go.Deep Go.Joins
set_option linter.unusedVariables false

theorem box_set0 {W : World} {B : Nat} {t : TypeId} {u0 u1 u2 : Value} (h : Boxes W B t #[u0, u1, u2]) (v : Value) : Boxes (W.setCell ⟨B, 0, none⟩ v) B t #[v, u1, u2] := h.set3 v
theorem box_set1 {W : World} {B : Nat} {t : TypeId} {u0 u1 u2 : Value} (h : Boxes W B t #[u0, u1, u2]) (v : Value) : Boxes (W.setCell ⟨B, 1, none⟩ v) B t #[u0, v, u2] := by
  unfold Boxes at h ⊢
  simp [World.setCell, Array.getElem?_modify, h]
theorem box_set2 {W : World} {B : Nat} {t : TypeId} {u0 u1 u2 : Value} (h : Boxes W B t #[u0, u1, u2]) (v : Value) : Boxes (W.setCell ⟨B, 2, none⟩ v) B t #[u0, u1, v] := by
  unfold Boxes at h ⊢
  simp [World.setCell, Array.getElem?_modify, h]
theorem box_sets {W : World} {B : Nat} {t : TypeId} {u0 u1 u2 : Value} (h : Boxes W B t #[u0, u1, u2]) (v0 v1 v2 : Value) : Boxes (((W.setCell ⟨B, 0, none⟩ v0).setCell ⟨B, 1, none⟩ v1).setCell ⟨B, 2, none⟩ v2) B t #[v0, v1, v2] := box_set2 (box_set1 (box_set0 h v0) v1) v2
theorem own_setb {W : World} {base B o : Nat} {p : Int} {v : Value} {us : List Value} {zss : List (List Int)} (h : OwnG W base p v us zss) {vs : Array Value} (hx : Boxes W B 102 vs) (u : Value) : OwnG (W.setCell ⟨B, o, none⟩ u) base p v us zss := ⟨row_setb h.row hx.is (by decide) u, h.rows.map fun _ _ k => row_setb k hx.is (by decide) u⟩
theorem own_sets {W : World} {base B : Nat} {p : Int} {v : Value} {us : List Value} {zss : List (List Int)} {u0 u1 u2 : Value} (h : OwnG W base p v us zss) (hx : Boxes W B 102 #[u0, u1, u2]) (v0 v1 v2 : Value) : OwnG (((W.setCell ⟨B, 0, none⟩ v0).setCell ⟨B, 1, none⟩ v1).setCell ⟨B, 2, none⟩ v2) base p v us zss := own_setb (own_setb (own_setb h hx v0) (box_set0 hx v0) v1) (box_set1 (box_set0 hx v0) v1) v2
theorem below_sets {W W' : World} {base B : Nat} (h : Below base W W') (hB : base ≤ B) (v0 v1 v2 : Value) : Below base W (((W'.setCell ⟨B, 0, none⟩ v0).setCell ⟨B, 1, none⟩ v1).setCell ⟨B, 2, none⟩ v2) := ((h.setCell (p := ⟨B, 0, none⟩) hB v0).setCell (p := ⟨B, 1, none⟩) hB v1).setCell (p := ⟨B, 2, none⟩) hB v2

theorem sh_alloc_b (W w8 : World) (vs : Array Value) (t : TypeId) (hb : Below (W.alloc (.cells vs t)).drew.heap.size (W.alloc (.cells vs t)).drew w8) : Boxes w8 W.heap.size t vs := Boxes.step (Boxes.step (World.alloc_heap_new W _) (drew_step _)) hb
theorem sh_b1 (W w8 : World) (hb : Below W.drew.heap.size W.drew w8) : Below W.heap.size W w8 := (drew_step W).trans hb
theorem sh_b2 (W w8 : World) (o : Obj) (hb : Below (W.alloc o).drew.heap.size (W.alloc o).drew w8) : Below W.heap.size W w8 := (((Below.refl _ _).alloc (Nat.le_refl _) o).drew).trans (hb.mono (by simp))

/-- A list's elements and blinds, as two rows. -/
theorem sh_rows {W : World} {b g cb : Nat} {ab : Option Addr} {x : Int} {bl : List Int} (h0 : W.cell? ⟨b, 0, none⟩ = some (.slice (some ⟨g, 0, none⟩) 1 1)) (h1 : W.cell? ⟨b, 1, none⟩ = some (.slice ab bl.length cb)) (hx : W.cell? ⟨g, 0, none⟩ = some (.int .i64 x)) (hb : Ints W ab bl) : Rows2 W (some ⟨b, 0, none⟩) [[x], bl] := by
  refine .inr ⟨b, 0, rfl, fun i hi => ?_⟩
  match i, hi with
  | 0, _ =>
    refine ⟨some ⟨g, 0, none⟩, 1, h0, .inr ⟨g, 0, rfl, fun j hj => ?_⟩⟩
    have : j = 0 := by simpa [nthL] using hj
    subst this
    simpa [nthL, nth] using hx
  | 1, _ => exact ⟨ab, cb, h1, hb⟩
theorem sh_rows1 {W : World} {b cb : Nat} {aa : Option Addr} {zs : List Int} (h0 : W.cell? ⟨b, 0, none⟩ = some (.slice aa zs.length cb)) (hb : Ints W aa zs) : Rows2 W (some ⟨b, 0, none⟩) [zs] := by
  refine .inr ⟨b, 0, rfl, fun i hi => ?_⟩
  match i, hi with
  | 0, _ => exact ⟨aa, cb, h0, hb⟩
theorem sh_flat (x : Int) (bl : List Int) : [[x], bl].flatten = x :: bl := by simp
theorem bx0 (W w8 : World) (vs : Array Value) (t : TypeId) (o1 o2 : Obj) (hb : Below (((W.alloc (.cells vs t)).alloc o1).alloc o2).drew.heap.size (((W.alloc (.cells vs t)).alloc o1).alloc o2).drew w8) : Boxes w8 W.heap.size t vs := Boxes.step (Boxes.step (Boxes.step (Boxes.step (World.alloc_heap_new W _) (alx_b _ o1)) (alx_b _ o2)) (drew_step _)) hb
theorem bx1 (W w8 : World) (vs : Array Value) (t : TypeId) (o1 o2 : Obj) (hb : Below (((W.alloc o1).alloc (.cells vs t)).alloc o2).drew.heap.size (((W.alloc o1).alloc (.cells vs t)).alloc o2).drew w8) : Boxes w8 (W.heap.size + 1) t vs := by
  have h := Boxes.step (Boxes.step (Boxes.step (World.alloc_heap_new (W.alloc o1) (.cells vs t)) (alx_b _ o2)) (drew_step _)) hb
  simpa only [World.size_alloc] using h
theorem bx2 (W w8 : World) (vs : Array Value) (t : TypeId) (o1 o2 : Obj) (hb : Below (((W.alloc o1).alloc o2).alloc (.cells vs t)).drew.heap.size (((W.alloc o1).alloc o2).alloc (.cells vs t)).drew w8) : Boxes w8 (W.heap.size + 2) t vs := by
  have h := Boxes.step (Boxes.step (World.alloc_heap_new ((W.alloc o1).alloc o2) (.cells vs t)) (drew_step _)) hb
  simpa only [World.size_alloc] using h
theorem by0 (W w8 : World) (vs : Array Value) (t : TypeId) (o1 : Obj) (hb : Below ((W.alloc (.cells vs t)).alloc o1).heap.size ((W.alloc (.cells vs t)).alloc o1) w8) : Boxes w8 W.heap.size t vs := Boxes.step (Boxes.step (World.alloc_heap_new W _) (alx_b _ o1)) hb
theorem by1 (W w8 : World) (vs : Array Value) (t : TypeId) (o1 : Obj) (hb : Below ((W.alloc o1).alloc (.cells vs t)).heap.size ((W.alloc o1).alloc (.cells vs t)) w8) : Boxes w8 (W.heap.size + 1) t vs := by
  have h := Boxes.step (World.alloc_heap_new (W.alloc o1) (.cells vs t)) hb
  simpa only [World.size_alloc] using h
theorem own_g0 {W : World} {base : Nat} {p : Int} {v : Value} {us : List Value} {zs : List Int} (h : OwnG W base p v us [zs]) : ∃ a c, v = .slice a 1 c := h.form

end Go.Proofs.Ytnebkhelobpkpaa

namespace Go.Proofs.Ytnebkhelobpkpaa
open Go.RowKit Go.Deep Go.Joins
set_option linter.unusedVariables false

noncomputable def coL (h f l : Int) (yo : List Int) (z : List (List Int)) (gs hs : List Int) (x : Int) : List Int := if wiCode h f l yo z gs hs = 0 then (snL f l.toNat (partZ yo z gs ++ [fstL l.toNat]) (hs ++ [x])).drop 1 else []
noncomputable def coC (h f l : Int) (yo : List Int) (z : List (List Int)) (gs hs : List Int) (x : Int) : Int := if wiCode h f l yo z gs hs = 0 then snCode f l.toNat (partZ yo z gs ++ [fstL l.toNat]) (hs ++ [x]) else wiCode h f l yo z gs hs
theorem co_nth (Z : List (List Int)) (r : List Int) (i : Nat) (hi : i < (Z ++ [r]).length) : nthL (Z ++ [r]) i = if i < Z.length then nthL Z i else r := by
  rw [nthL_lt hi]
  by_cases h : i < Z.length
  · rw [if_pos h, List.getElem_append_left h, nthL_lt h]
  · rw [if_neg h]
    have : i = Z.length := by simp at hi; omega
    subst this
    simp
theorem co_good {p : Int} {n : Nat} {Z : List (List Int)} (hg : GoodM p n Z) (hz : Z.length ≤ 999) (hn : 1 ≤ n) : GoodM p n (Z ++ [fstL n]) :=
  ⟨hg.prm, hg.hn, by simp; omega, fun r hr => by
    rw [co_nth Z (fstL n) r hr]
    split
    · rename_i h; exact hg.rows r h
    · exact ⟨fstL_len n, fstL_elems hg.prm.1 n⟩⟩
theorem coL_len (h f l : Int) (yo : List Int) (z : List (List Int)) (gs hs : List Int) (x : Int) : (coL h f l yo z gs hs x).length ≤ 1048576 := by
  unfold coL
  split
  · rename_i hw
    by_cases hok : SchOk h yo f l z
    · rw [List.length_drop]
      have := snL_len (p := f) (n := l.toNat) (z := partZ yo z gs ++ [fstL l.toNat]) (v := hs ++ [x]) (by have := hok.2.1.2.1.2; omega)
      omega
    · exfalso
      unfold wiCode at hw
      rw [oe_bad hok] at hw
      cases hw
  · simp
/-- A solution without its first element, as the two programs cut it off. -/
theorem sol_tail {W : World} {base n : Nat} {u : Value} {zs : List Int} (h : OwnI W base u zs) (hn : zs.length = n) (h1 : 1 ≤ n) : ∃ g cap, u = .slice (some ⟨g, 0, none⟩) n cap ∧ n ≤ cap ∧ (cap = 1 → zs.drop 1 = []) ∧ (cap ≠ 1 → ∀ q, OwnD W base (.slice (some ⟨g, 1, none⟩) (n - 1) q) (zs.drop 1)) := by
  obtain ⟨g, cap, rfl, hb, hgl⟩ := World.ownsRow.form (show W.ownsRow base 2 1 u n (vals zs) from by have h2 := h; unfold OwnI at h2; rw [hn] at h2; exact h2) (by omega)
  have hc : n ≤ cap := by
    rcases h.2 with ⟨hv, _⟩ | ⟨g2, c2, cur, hv, _, _, hle, _⟩
    · cases hv
    · cases hv; omega
  refine ⟨g, cap, rfl, hc, fun e => ?_, fun e q => ?_⟩
  · exact List.eq_nil_of_length_eq_zero (by rw [List.length_drop]; omega)
  · cases zs with
    | nil => simp at hn; omega
    | cons y ys =>
      have hl : ys.length = n - 1 := by simp at hn; omega
      show OwnD W base _ ys
      rw [← hl]
      exact OwnD.lower (n := n) (cap := cap) (y := y) h (by simp at hn; omega)

theorem box_oth {W : World} {B b o : Nat} {t : TypeId} {vs : Array Value} (h : Boxes W B t vs) (hne : B ≠ b) (v : Value) : Boxes (W.setCell ⟨b, o, none⟩ v) B t vs := (Below.heap_setCell W ⟨b, o, none⟩ v B hne).trans h
theorem lists_eq (p : Int) (a : Option Addr) (zss : List (List Int)) (ca m : Nat) (w : World) (hm : zss.length = m) (hr : GridR w a p zss) (hs : Small2 zss) :
    Calls Try.prog 76 #[.slice a m ca] w fun e w' => (∃ v us, e = .returned v ∧ Own w' w.heap.size v us zss) ∧ Below w.heap.size w w' := by subst hm; exact lists_any p a zss ca w hr hs
theorem gridOfLists_eq (p c : Int) (a : Option Addr) (zss : List (List Int)) (cc m : Nat) (w : World) (hm : zss.length = m) (hr : Rows2 w a zss) (hs : Small2 zss) :
    Calls Try.prog 75 #[.int .i64 p, .int .i64 c, .slice a m cc] w fun e w' => (∃ v us, e = .returned (.agg #[v, .int .i64 p, .int .i64 c]) ∧ OwnG w' w.heap.size p v us zss) ∧ Below w.heap.size w w' := by subst hm; exact gridOfLists_any p c a zss cc w hr hs
theorem solution_eq (p : Int) (n : Nat) (a : Option Addr) (ca m : Nat) (z : List (List Int)) (av : Option Addr) (v : List Int) (cv k : Nat) (w : World) (hm : z.length = m) (hk : v.length = k) (hg : GoodM p n z) (hn : n ≤ 999) (hr : GridR w a p z) (hv : Ints w av v) (hvl : v.length ≤ 9223372036854775807) :
    Calls Try.prog 78 #[.agg #[.slice a m ca, .int .i64 p, .int .i64 ((n : Nat) : Int)], .slice av k cv] w (GivesIntsCode w (snL p n z v) (snCode p n z v)) := by subst hm; subst hk; exact solution_any p n a ca z av v cv w hg hn hr hv hvl
theorem co_rows {W : World} {ah : Option Addr} {hs : List Int} {ch : Nat} (x : Int) (t1 t2 : TypeId) (h : Ints W ah hs) : Rows2 ((W.alloc (.cells #[.int .i64 x] t1)).alloc (.cells #[.slice ah hs.length ch, .slice (some ⟨W.heap.size, 0, none⟩) 1 1] t2)) (some ⟨W.heap.size + 1, 0, none⟩) [hs, [x]] := by
  have hb : Below W.heap.size W ((W.alloc (.cells #[.int .i64 x] t1)).alloc (.cells #[.slice ah hs.length ch, .slice (some ⟨W.heap.size, 0, none⟩) 1 1] t2)) := ((Below.refl _ _).alloc (Nat.le_refl _) _).alloc (by simp) _
  refine .inr ⟨W.heap.size + 1, 0, rfl, fun i hi => ?_⟩
  match i, hi with
  | 0, _ => exact ⟨ah, ch, by simp [nthL], h.step hb⟩
  | 1, _ => exact ⟨some ⟨W.heap.size, 0, none⟩, 1, by simp [nthL], .inr ⟨W.heap.size, 0, rfl, fun j hj => by
      have : j = 0 := by simpa [nthL] using hj
      subst this
      simp [nthL, nth]⟩⟩
theorem co_code {p : Int} {n : Nat} {z : List (List Int)} {v : List Int} (hn : True) : (snCode p n z v = 0 ∧ (snL p n z v).length = n ∧ ValOk p z v ∧ SolOk p n z v) ∨ ((snCode p n z v = 2 ∨ snCode p n z v = 6) ∧ snL p n z v = []) := by
  by_cases h : ValOk p z v
  · rw [(sn_yes h).1, (sn_yes h).2]
    by_cases s : SolOk p n z v
    · rw [(sol_yes s).1, (sol_yes s).2]
      exact .inl ⟨rfl, solZ_len .., h, s⟩
    · rw [(sol_no s).1, (sol_no s).2]
      exact .inr ⟨.inr rfl, rfl⟩
  · rw [(sn_no h).1, (sn_no h).2]
    exact .inr ⟨.inl rfl, rfl⟩
theorem row_ge2 {W : World} {base e n : Nat} {v : Value} {xs : List Value} {s : Nat} (h : W.ownsRow base e s v n xs) {q : Nat} (hq : v.ownBlock = some q) : base ≤ q := by
  rcases h.2 with ⟨rfl, _⟩ | ⟨g, cap, cur, rfl, hg, _⟩
  · simp [Value.ownBlock] at hq
  · obtain rfl : g = q := by simpa [Value.ownBlock] using hq
    exact hg
theorem ints_setb {W : World} {B o : Nat} {a : Option Addr} {zs : List Int} (h : Ints W a zs) (hb : ∀ b o', a = some ⟨b, o', none⟩ → b ≠ B) (u : Value) : Ints (W.setCell ⟨B, o, none⟩ u) a zs := by
  rcases h with h | ⟨b, o', rfl, hc⟩
  · exact .inl h
  · refine .inr ⟨b, o', rfl, fun i hi => ?_⟩
    have h1 := hc i hi
    unfold World.cell? at h1 ⊢
    rw [Below.heap_setCell _ _ _ _ (fun e => hb b o' rfl e)]
    exact h1
theorem boxes_setT {W : World} {B B' : Nat} {t : TypeId} {vs : Array Value} (h : Boxes W B t vs) (hne : B ≠ B') (v0 v1 v2 : Value) : Boxes (((W.setCell ⟨B', 0, none⟩ v0).setCell ⟨B', 1, none⟩ v1).setCell ⟨B', 2, none⟩ v2) B t vs := box_oth (box_oth (box_oth h hne v0) hne v1) hne v2

set_option maxRecDepth 100000 in
set_option maxHeartbeats 8000000 in
theorem implCo_any (h f l : Int) (ao : Option Addr) (yo : List Int) (co : Nat) (a : Option Addr) (z : List (List Int)) (c : Nat) (ag : Option Addr) (gs : List Int) (cg : Nat) (ah : Option Addr) (hs : List Int) (ch : Nat) (x : Int) (w : World) (hr : InS w ao yo a z) (hl : LenS yo z) (hg : Ints w ag gs) (hlg : gs.length ≤ 9223372036854775807) (hh : Ints w ah hs) (hlh : hs.length ≤ 9223372036854775807) :
    Calls Try.prog 28 #[.agg #[.int .i64 h, .slice ao yo.length co, .int .i64 f, .int .i64 l, .slice a z.length c], .slice ag gs.length cg, .slice ah hs.length ch, .int .i64 x] w (GivesTail w (coL h f l yo z gs hs x) (coC h f l yo z gs hs x)) := by
  have HL := Lib.hid hl
  have hb1 := al_b w (.cells #[.int .i64 h, .slice ao yo.length co, .int .i64 f, .int .i64 l, .slice a z.length c] 48)
  have HX := Lib.hid (show Boxes (w.alloc (.cells #[.int .i64 h, .slice ao yo.length co, .int .i64 f, .int .i64 l, .slice a z.length c] 48)) w.heap.size 48 #[.int .i64 h, .slice ao yo.length co, .int .i64 f, .int .i64 l, .slice a z.length c] from World.alloc_heap_new w _)
  have HB1 := Lib.hid hb1
  have HR := Lib.hid (hr.step hb1)
  have HG := Lib.hid (hg.step hb1)
  have HH := Lib.hid (hh.step hb1)
  have HH0 := Lib.hid hh
  obtain ⟨i0, hi, hz0, hz1, hz2⟩ := info_parts Try.infoInt64
  obtain ⟨i1, ji, jz0, jz1, jz2⟩ := info_parts Try.infoInt64S
  clear hr hl hb1 hg hh
  by_cases hok : (SchOk h yo f l z ∧ IsGrp h gs) ∧ RowOk f ((partI yo gs).length : Int) hs
  case neg =>
    have hc : (wiCode h f l yo z gs hs = 1 ∨ wiCode h f l yo z gs hs = 2) := by
      by_cases h1 : SchOk h yo f l z ∧ IsGrp h gs
      · exact .inr (wi_row h1 (hs := hs) fun q => hok ⟨h1, q⟩).1
      · have := wi_grp (hs := hs) h1
        rw [this.2.1]
        exact this.1
    have HC := Lib.hid (show coL h f l yo z gs hs x = [] ∧ coC h f l yo z gs hs x = wiCode h f l yo z gs hs from by
      unfold coL coC
      have h0 : ¬ wiCode h f l yo z gs hs = 0 := by rcases hc with e | e <;> omega
      rw [if_neg h0, if_neg h0]
      exact ⟨rfl, rfl⟩)
    obtain ⟨y, hy⟩ : ∃ y, wiCode h f l yo z gs hs = y := ⟨_, rfl⟩
    have HY := Lib.hid hy
    rw [hy] at hc HC
    have t1 : (y != 0) = true := by rcases hc with e | e <;> rw [e] <;> rfl
    have t2 : ¬ y = 0 := by rcases hc with e | e <;> omega
    clear hok hc hy
    go_enter Try.func28, Try.ntmps28
    go_wp2_with fail
    refine (gridOfShares_any h f l ao yo co a z c ag gs cg ah hs ch _ HR.out HL.out HG.out hlg HH.out hlh).mono ?_
    rw [HY.out]
    rintro e w2 ⟨⟨xa, xm, xc, xf, xl, rfl, -⟩, hb2⟩
    have HB2 := Lib.hid (chain HB1.out hb2)
    clear hb2
    go_wp2_with fail
    go_ret2
    exact ⟨⟨_, by rw [HC.out.2]; rfl, by rw [HC.out.1]; exact OwnD.nil _ _ _ _⟩, HB2.out.alloc HB2.out.size _⟩
  have HW := Lib.hid (wi_ok hok.1 hok.2).1
  have HO := Lib.hid hok
  have hl1 : 1 ≤ l := hok.1.1.2.2.1
  have hl12 : l ≤ 12 := hok.1.1.2.1.2.1.2
  have hf2 : 2 ≤ f := hok.1.1.2.1.1.1
  have hf31 : f ≤ 31 := hok.1.1.2.1.1.2.1
  obtain ⟨n, rfl⟩ : ∃ n : Nat, l = (n : Int) := ⟨l.toNat, by omega⟩
  have hn1 : 1 ≤ n := by omega
  have hn12 : n ≤ 12 := by omega
  have HPG := Lib.hid (show GoodM f n (partZ yo z gs) from by have h := part_good hok.1.1 gs; rw [Int.toNat_natCast] at h; exact h)
  have hpl : (partZ yo z gs).length ≤ 20 := by rw [partZ_len]; have := partI_len yo gs; have := hok.1.1.2.2.2.1; have := hok.1.1.2.1.2.2.1; omega
  have HPI := Lib.hid (show (partI yo gs).length = (partZ yo z gs).length from (partZ_len yo z gs).symm)
  have HVL := Lib.hid (show hs.length = (partZ yo z gs).length from by rw [partZ_len]; have := hok.2.1; omega)
  have HCG := Lib.hid (co_good HPG.out (by omega) hn1)
  have HCL := Lib.hid (show coL h f (n : Int) yo z gs hs x = (snL f n (partZ yo z gs ++ [fstL n]) (hs ++ [x])).drop 1 ∧ coC h f (n : Int) yo z gs hs x = snCode f n (partZ yo z gs ++ [fstL n]) (hs ++ [x]) from by
    unfold coL coC
    rw [if_pos HW.out, if_pos HW.out, Int.toNat_natCast]
    exact ⟨rfl, rfl⟩)
  clear hok
  go_enter Try.func28, Try.ntmps28
  go_wp2_with fail
  refine (gridOfShares_any h f (n : Int) ao yo co a z c ag gs cg ah hs ch _ HR.out HL.out HG.out hlg HH.out hlh).mono ?_
  generalize w.alloc (.cells #[.int .i64 h, .slice ao yo.length co, .int .i64 f, .int .i64 (n : Int), .slice a z.length c] 48) = w1 at *
  rw [HW.out]
  rintro e w2 ⟨⟨xa, xm, xc, xf, xl, rfl, hk⟩, hb2⟩
  obtain ⟨rfl, rfl, rfl, hgr⟩ := hk HO.out
  have hb3 := al_b w2 (.cells #[.slice xa (partZ yo z gs).length xc, .int .i64 xf, .int .i64 (n : Int)] 102)
  have HX3 := Lib.hid (show Boxes (w2.alloc (.cells #[.slice xa (partZ yo z gs).length xc, .int .i64 xf, .int .i64 (n : Int)] 102)) w2.heap.size 102 #[.slice xa (partZ yo z gs).length xc, .int .i64 xf, .int .i64 (n : Int)] from World.alloc_heap_new w2 _)
  have HS3 := Lib.hid ((HX.out.step hb2).step hb3)
  have HG3 := Lib.hid (hgr.step hb3)
  have HH3 := Lib.hid ((HH.out.step hb2).step hb3)
  have HB3 := Lib.hid ((chain HB1.out hb2).trans (hb3.mono (chain HB1.out hb2).size))
  have hqw : w.heap.size < w2.heap.size := (HX.out.step hb2).lt
  clear hk hgr hb2 hb3 HX HR HG HH HB1
  go_upto_region 4 with fail
  generalize w2.alloc (.cells #[.slice xa (partZ yo z gs).length xc, .int .i64 xf, .int .i64 (n : Int)] 102) = w3 at *
  generalize w2.heap.size = qg at *
  obtain ⟨m, hm⟩ : ∃ m, (partZ yo z gs).length = m := ⟨_, rfl⟩
  have HM := Lib.hid hm
  have HCN := Lib.hid (show (partZ yo z gs ++ [fstL n]).length = m + 1 from by rw [List.length_append, hm]; rfl)
  have HSM := Lib.hid (show Small2 (partZ yo z gs) from ⟨by omega, fun r hr => by rw [(HPG.out.rows r hr).1]; omega⟩)
  have HSC := Lib.hid (show Small2 (partZ yo z gs ++ [fstL n]) from ⟨by rw [List.length_append, hm]; show m + 1 ≤ 1048576; omega, fun r hr => by rw [(HCG.out.rows r hr).1]; omega⟩)
  rw [hm] at HX3 HVL hpl
  have c0 := HX3.out.m0
  have c2 := HX3.out.m2
  have cl := HX3.out.lt
  have d2 := HS3.out.s2
  have dl := HS3.out.lt
  have g0 := HX3.out.frozen 0
  have g1 := HX3.out.frozen 1
  have g2 := HX3.out.frozen 2
  have MK := Lib.hid (show ∀ w' : World, Below w3.heap.size w3 w' → w'.cell? ⟨w.heap.size, 2, none⟩ = some (.int .i64 xf) ∧ w'.cell? ⟨qg, 2, none⟩ = some (.int .i64 (n : Int)) from fun w' hw => ⟨(HS3.out.step hw).s2, (HX3.out.step hw).m2⟩)
  clear hm
  go_upto_region 4 with fail
  refine wp_region_noPanic ?_
  refine wp_region_held_drew (S := (fun w' => w'.cell? ⟨w.heap.size, 2, none⟩ = some (.int .i64 xf) ∧ w'.cell? ⟨qg, 2, none⟩ = some (.int .i64 (n : Int)))) (by kernel_rfl) ?_ (fun hH => ?_)
  · exact MK.out _ (drew_step _)
  refine wpAnyH_take (i := 0) (oi := ?oi1) (v := ?v1) ?hi1 (by kernel_rfl) (by kernel_rfl) (by kernel_rfl) (fun _ _ _ h => h) (Or.inl ⟨?hw1, ?hy1⟩) hH ?rest1
  case hi1 => (simp only [List.getElem?_toArray, List.getElem?_cons_zero]; rfl)
  case hw1 => rfl
  case hy1 => (intro w hSw; (try dsimp only at hSw); go_simp; try with_reducible rfl)
  (try simp only [Act.put, List.setIfInBounds_toArray, List.set_cons_zero, List.set_cons_succ])
  refine wpAnyH_take (i := 1) (oi := ?oi2) (v := ?v2) ?hi2 (by kernel_rfl) (by kernel_rfl) (by kernel_rfl) (fun _ _ _ h => h) (Or.inl ⟨?hw2, ?hy2⟩) hH ?rest2
  case hi2 => (simp only [List.getElem?_toArray, List.getElem?_cons_succ, List.getElem?_cons_zero]; rfl)
  case hw2 => rfl
  case hy2 => (intro w hSw; (try dsimp only at hSw); go_simp; try with_reducible rfl)
  (try simp only [Act.put, List.setIfInBounds_toArray, List.set_cons_zero, List.set_cons_succ])
  refine wpAnyH_take (i := 2) (oi := ?oi3) (v := ?v3) ?hi3 (by kernel_rfl) (by kernel_rfl) (by kernel_rfl) (fun _ _ _ h => h) (Or.inl ⟨?hw3, ?hy3⟩) hH ?rest3
  case hi3 => (simp only [List.getElem?_toArray, List.getElem?_cons_succ, List.getElem?_cons_zero]; rfl)
  case hw3 => rfl
  case hy3 => (intro w hSw; (try dsimp only at hSw); go_simp; try with_reducible rfl)
  (try simp only [Act.put, List.setIfInBounds_toArray, List.set_cons_zero, List.set_cons_succ])
  refine wpAnyH_take (i := 3) (oi := ?oi4) (v := ?v4) ?hi4 (by kernel_rfl) (by kernel_rfl) (by kernel_rfl) (fun _ _ _ h => h) (Or.inl ⟨?hw4, ?hy4⟩) hH ?rest4
  case hi4 => (simp only [List.getElem?_toArray, List.getElem?_cons_succ, List.getElem?_cons_zero]; rfl)
  case hw4 => rfl
  case hy4 => (intro w hSw; (try dsimp only at hSw); go_simp; try with_reducible rfl)
  (try simp only [Act.put, List.setIfInBounds_toArray, List.set_cons_zero, List.set_cons_succ])
  refine wpAnyH_take (i := 4) (oi := ?oi5) (v := ?v5) ?hi5 (by kernel_rfl) (by kernel_rfl) (by kernel_rfl) (fun _ _ _ h => h) (Or.inl ⟨?hw5, ?hy5⟩) hH ?rest5
  case hi5 => (simp only [List.getElem?_toArray, List.getElem?_cons_succ, List.getElem?_cons_zero]; rfl)
  case hw5 => rfl
  case hy5 => (intro w hSw; (try dsimp only at hSw); go_simp; try with_reducible rfl)
  (try simp only [Act.put, List.setIfInBounds_toArray, List.set_cons_zero, List.set_cons_succ])
  refine wpAnyH_take (i := 5) (oi := ?oi6) (v := ?v6) ?hi6 (by kernel_rfl) (by kernel_rfl) (by kernel_rfl) (fun _ _ _ h => h) (Or.inl ⟨?hw6, ?hy6⟩) hH ?rest6
  case hi6 => (simp only [List.getElem?_toArray, List.getElem?_cons_succ, List.getElem?_cons_zero]; rfl)
  case hw6 => rfl
  case hy6 => (intro w hSw; (try dsimp only at hSw); go_simp; try with_reducible rfl)
  (try simp only [Act.put, List.setIfInBounds_toArray, List.set_cons_zero, List.set_cons_succ])
  refine wpAnyH_take (i := 8) (oi := ?oi7) (v := ?v7) ?hi7 (by kernel_rfl) (by kernel_rfl) (by kernel_rfl) (fun _ _ _ h => h) (Or.inl ⟨?hw7, ?hy7⟩) hH ?rest7
  case hi7 => (simp only [List.getElem?_toArray, List.getElem?_cons_succ, List.getElem?_cons_zero]; rfl)
  case hw7 => rfl
  case hy7 => (intro w hSw; (try dsimp only at hSw); go_simp; try with_reducible rfl)
  (try simp only [Act.put, List.setIfInBounds_toArray, List.set_cons_zero, List.set_cons_succ])
  refine wpAnyH_take (i := 9) (oi := ?oi8) (v := ?v8) ?hi8 (by kernel_rfl) (by kernel_rfl) (by kernel_rfl) (fun _ _ _ h => h) (Or.inl ⟨?hw8, ?hy8⟩) hH ?rest8
  case hi8 => (simp only [List.getElem?_toArray, List.getElem?_cons_succ, List.getElem?_cons_zero]; rfl)
  case hw8 => rfl
  case hy8 => (intro w hSw; (try dsimp only at hSw); go_simp; try with_reducible rfl)
  (try simp only [Act.put, List.setIfInBounds_toArray, List.set_cons_zero, List.set_cons_succ])
  refine wpAnyH_ready (rs := [6]) (by kernel_rfl) (by simp) ?_
  refine AllReadyH.cons (o := ?o9) ?ho9 (fun K hK => ?step9) ?more9
  case ho9 => (simp only [List.getElem?_toArray, List.getElem?_cons_succ, List.getElem?_cons_zero]; rfl)
  case step9 =>
    go_simp
    refine hK.out _ _ ?_ (fun hH0 => ?_)
    · exact hH
    clear hK K hH
    (try simp only [Act.put, List.setIfInBounds_toArray, List.set_cons_zero, List.set_cons_succ])
    refine wpAnyH_ready (rs := [7]) (by kernel_rfl) (by simp) ?_
    refine AllReadyH.cons (o := ?o10) ?ho10 (fun K hK => ?step10) ?more10
    case ho10 => (simp only [List.getElem?_toArray, List.getElem?_cons_succ, List.getElem?_cons_zero]; rfl)
    case step10 =>
      go_simp
      go_at_call 76; refine (lists_eq xf xa (partZ yo z gs) xc m _ HM.out (HG3.out.step (drew_step _)) HSM.out).mono ?_; rintro e w4 ⟨⟨v4, us4, rfl, ho4⟩, hb4⟩; obtain ⟨v4a, v4c, hv4⟩ := ho4.form; rw [HM.out] at hv4; subst hv4; have HB4 := Lib.hid (show Below w3.heap.size w3 w4 from (drew_step w3).trans hb4); have HO4 := Lib.hid (show Own w4 w3.heap.size (.slice v4a m v4c) us4 (partZ yo z gs) from ho4); have HR4 := Lib.hid (show w4.ownsRow w3.heap.size 35 1 (.slice v4a m v4c) m us4 from by have h9 := ho4.row; rw [HM.out] at h9; exact h9); clear ho4 hb4; have hs4 := HB4.out.size
      go_wp2_with fail
      refine hK.out _ _ ?_ (fun hH1 => ?_)
      · exact MK.out _ HB4.out
      clear hK K hH0
      (try simp only [Act.put, List.setIfInBounds_toArray, List.set_cons_zero, List.set_cons_succ])
      refine wpAnyH_ready (rs := [10]) (by kernel_rfl) (by simp) ?_
      refine AllReadyH.cons (o := ?o11) ?ho11 (fun K hK => ?step11) ?more11
      case ho11 => (simp only [List.getElem?_toArray, List.getElem?_cons_succ, List.getElem?_cons_zero]; rfl)
      case step11 =>
        go_simp
        go_at_call 77; refine (secretList_any n _ hn1 (by omega)).mono ?_; rintro e w5 ⟨⟨v5, rfl, hv5⟩, hb5⟩; obtain ⟨v5a, v5c, hf5⟩ := rowForm hv5; rw [fstL_len] at hf5; subst hf5; have HV5 := Lib.hid (show OwnI w5 w4.heap.size (.slice v5a n v5c) (fstL n) from hv5); have HB5 := Lib.hid hb5; have HB35 := Lib.hid (HB4.out.trans (hb5.mono hs4)); clear hv5 hb5; have hs5 := HB35.out.size
        go_wp2_with fail
        refine hK.out _ _ ?_ (fun hH2 => ?_)
        · exact MK.out _ HB35.out
        clear hK K hH1
        (try simp only [Act.put, List.setIfInBounds_toArray, List.set_cons_zero, List.set_cons_succ])
        refine wpAnyH_ready (rs := [11]) (by kernel_rfl) (by simp) ?_
        refine AllReadyH.cons (o := ?o12) ?ho12 (fun K hK => ?step12) ?more12
        case ho12 => (simp only [List.getElem?_toArray, List.getElem?_cons_succ, List.getElem?_cons_zero]; rfl)
        case step12 =>
          go_simp
          refine hK.out _ _ ?_ (fun hH3 => ?_)
          · exact MK.out _ (HB35.out.alloc hs5 _)
          clear hK K hH2
          (try simp only [Act.put, List.setIfInBounds_toArray, List.set_cons_zero, List.set_cons_succ])
          refine wpAnyH_ready (rs := [12]) (by kernel_rfl) (by simp) ?_
          refine AllReadyH.cons (o := ?o13) ?ho13 (fun K hK => ?step13) ?more13
          case ho13 => (simp only [List.getElem?_toArray, List.getElem?_cons_succ, List.getElem?_cons_zero]; rfl)
          case step13 =>
            refine step_append_lies _ (by rfl) _ _ 36 (by rfl) w3.heap.size 35 i1 (.slice none 0 0) 1 24 Try.underlying36 ji jz0 jz1 jz2 (by rfl) (by decide) (.slice v4a m v4c) m us4 (by rfl) (World.ownsRow.alloc (row_step HR4.out HB5.out) (.cells #[.slice v5a n v5c] 35)) ⟨w5.heap.size, 0, none⟩ 1 1 [.slice v5a n v5c] (by rfl) (by rfl) (cell_one_new _ _ _) (by simp [Value.oneCell']) (by decide) (by unfold maxLen; omega) (by omega) (by simp; omega) _ rfl ?_; intro g6 cap6 w6 hown6 hgrow6 hat6 hlt6; have HO6 := Lib.hid (show Own w6 w3.heap.size (.slice (some ⟨g6, 0, none⟩) (m + 1) cap6) (us4 ++ [.slice v5a n v5c]) (partZ yo z gs ++ [fstL n]) from ⟨by rw [HCN.out]; exact hown6, (HO4.out.rows.snoc HB5.out HV5.out hs4).map fun u zs ho => row_other (World.ownsRow.alloc ho _) (World.ownsRow.alloc (row_step HR4.out HB5.out) _) hgrow6 (by decide)⟩); have HB6 := Lib.hid (show Below w3.heap.size w3 w6 from (HB35.out.alloc hs5 _).grown hgrow6 (by simp; omega) (fun q hq => (row_ge2 HR4.out hq))); clear hown6 hgrow6 hat6 hlt6; have hs6 := HB6.out.size
            refine hK.out _ _ ?_ (fun hH4 => ?_)
            · exact MK.out _ HB6.out
            clear hK K hH3
            (try simp only [Act.put, List.setIfInBounds_toArray, List.set_cons_zero, List.set_cons_succ])
            refine wpAnyH_ready (rs := [13]) (by kernel_rfl) (by simp) ?_
            refine AllReadyH.cons (o := ?o14) ?ho14 (fun K hK => ?step14) ?more14
            case ho14 => (simp only [List.getElem?_toArray, List.getElem?_cons_succ, List.getElem?_cons_zero]; rfl)
            case step14 =>
              go_simp
              go_at_call 75; refine (gridOfLists_eq xf (n : Int) (some ⟨g6, 0, none⟩) (partZ yo z gs ++ [fstL n]) cap6 (m + 1) w6 HCN.out HO6.out.rows2v HSC.out).mono ?_; rintro e w7 ⟨⟨v7, us7, rfl, ho7⟩, hb7⟩; obtain ⟨v7a, v7c, hf7⟩ := ho7.form; rw [HCN.out] at hf7; subst hf7; have HB7 := Lib.hid (show Below w3.heap.size w3 w7 from HB6.out.trans (hb7.mono hs6)); have HO7 := Lib.hid ho7; have HX7 := Lib.hid (HX3.out.step HB7.out); have HS7 := Lib.hid (HS3.out.step HB7.out); have t0 := HX7.out.m0; have t1 := HX7.out.m1; have t2 := HX7.out.m2; have tf0 := HX7.out.frozen 0; have tf1 := HX7.out.frozen 1; have tf2 := HX7.out.frozen 2; have tl := HX7.out.lt; clear ho7 hb7
              go_wp2_with fail
              refine hK.out _ _ ?_ (fun hH5 => ?_)
              · exact MK.out _ HB7.out
              clear hK K hH4
              (try simp only [Act.put, List.setIfInBounds_toArray, List.set_cons_zero, List.set_cons_succ])
              refine wpAnyH_ready (rs := [14]) (by kernel_rfl) (by simp) ?_
              refine AllReadyH.cons (o := ?o15) ?ho15 (fun K hK => ?step15) ?more15
              case ho15 => (simp only [List.getElem?_toArray, List.getElem?_cons_succ, List.getElem?_cons_zero]; rfl)
              case step15 =>
                go_simp
                refine hK.out _ _ ?_ (fun hH6 => ?_)
                · exact ⟨(boxes_setT HS7.out (by omega) _ _ _).s2, (HX7.out.all3 _ _ _).m2⟩
                clear hK K hH5
                (try simp only [Act.put, List.setIfInBounds_toArray, List.set_cons_zero, List.set_cons_succ])
                refine wpAnyH_done (by kernel_rfl) ?_ _
                refine NoPanic.normal ?_
                have HX8 := Lib.hid (HX7.out.all3 (.slice v7a (m + 1) v7c) (.int .i64 xf) (.int .i64 (n : Int)))
                have HG8 := Lib.hid (grid_of (n := m + 1) (own_sets HO7.out HX7.out (.slice v7a (m + 1) v7c) (.int .i64 xf) (.int .i64 (n : Int))))
                have HB8 := Lib.hid (below_sets (show Below w.heap.size w w7 from HB3.out.trans (HB7.out.mono HB3.out.size)) (Nat.le_of_lt hqw) (.slice v7a (m + 1) v7c) (.int .i64 xf) (.int .i64 (n : Int)))
                have HH8 := Lib.hid (HH0.out.below HB8.out (Nat.le_refl _))
                clear t0 t1 t2 tf0 tf1 tf2 tl c0 c2 cl d2 dl g0 g1 g2 MK
                generalize ((w7.setCell ⟨qg, 0, none⟩ (.slice v7a (m + 1) v7c)).setCell ⟨qg, 1, none⟩ (.int .i64 xf)).setCell ⟨qg, 2, none⟩ (.int .i64 (n : Int)) = w8 at *
                have c0 := HX8.out.m0
                have c1 := HX8.out.m1
                have c2 := HX8.out.m2
                have MK := Lib.hid (show ∀ w' : World, Below w8.heap.size w8 w' → Below w8.heap.size w8 w' ∧ w'.cell? ⟨qg, 0, none⟩ = some (.slice v7a (m + 1) v7c) ∧ w'.cell? ⟨qg, 1, none⟩ = some (.int .i64 xf) ∧ w'.cell? ⟨qg, 2, none⟩ = some (.int .i64 (n : Int)) from fun w' hw => ⟨hw, (HX8.out.step hw).m0, (HX8.out.step hw).m1, (HX8.out.step hw).m2⟩)
                have HKL := Lib.hid (show (hs ++ [x]).length = m + 1 from by rw [List.length_append, HVL.out]; rfl)
                have HHL := Lib.hid (show ∀ r, r < [hs, [x]].length → (nthL [hs, [x]] r).length ≤ 1000 from fun r hr => by
                  match r, hr with
                  | 0, _ => show hs.length ≤ 1000; have := HVL.out; omega
                  | 1, _ => show 1 ≤ 1000; omega)
                go_upto_region 5 with fail
                go_region_held3 (fun w' => Below w8.heap.size w8 w' ∧ w'.cell? ⟨qg, 0, none⟩ = some (.slice v7a (m + 1) v7c) ∧ w'.cell? ⟨qg, 1, none⟩ = some (.int .i64 xf) ∧ w'.cell? ⟨qg, 2, none⟩ = some (.int .i64 (n : Int))) (first | exact MK.out _ (drew_step _) | exact MK.out _ (chain (‹Below w8.heap.size w8 _ ∧ _›).1 hb) | exact MK.out _ ((Below.refl _ _).alloc (Nat.le_refl _) _).drew | exact MK.out _ (((Below.refl _ _).alloc (Nat.le_refl _) _).alloc (by simp) _).drew | fail) (first
                  | (go_at_call 79; have KK := (‹Below w8.heap.size w8 _ ∧ _›).1; refine (concat_any _ [hs, [x]] 2 _ ((co_rows x 2 35 HH8.out).step (drew_step _)) (show 2 ≤ 10 by omega) HHL.out).mono ?_; rintro e w9 ⟨⟨v9, rfl, hv9⟩, hb⟩; obtain ⟨v9a, v9c, hf9⟩ := rowForm hv9; have hv9' : OwnI w9 _ v9 (hs ++ [x]) := hv9; rw [show ([hs, [x]] : List (List Int)).flatten.length = m + 1 from HKL.out] at hf9; subst hf9; have HV9 := Lib.hid (Ints_of_own hv9'); have HB9 := Lib.hid (chain KK hb); clear hv9 hv9' KK)
                  | (go_at_call 78; refine (solution_eq xf n v7a v7c (m + 1) (partZ yo z gs ++ [fstL n]) v9a (hs ++ [x]) v9c (m + 1) w9 HCN.out HKL.out HCG.out (by omega) (HG8.out.step HB9.out) HV9.out (by rw [HKL.out]; omega)).mono ?_; rintro e w10 ⟨⟨u10, rfl, hu10⟩, hb⟩; have HU := Lib.hid (hu10.mono (Nat.le_trans HB8.out.size HB9.out.size)); have HB10 := Lib.hid (chain (chain HB8.out HB9.out) hb); clear hu10))
                all_goals (
                  have hco := co_code (p := xf) (n := n) (z := partZ yo z gs ++ [fstL n]) (v := hs ++ [x]) trivial
                  obtain ⟨LL, hLL⟩ : ∃ LL, snL xf n (partZ yo z gs ++ [fstL n]) (hs ++ [x]) = LL := ⟨_, rfl⟩
                  obtain ⟨CC, hCC⟩ : ∃ CC, snCode xf n (partZ yo z gs ++ [fstL n]) (hs ++ [x]) = CC := ⟨_, rfl⟩
                  rw [hLL, hCC] at hco HCL
                  rw [hLL] at HU
                  rw [hCC]
                  clear hLL hCC c0 c1 c2 MK hb
                  rcases hco with ⟨rfl, hln, -, -⟩ | ⟨hcc, rfl⟩
                  · obtain ⟨g, cap, rfl, hcap, hz, ht⟩ := sol_tail HU.out hln hn1
                    have HZ := Lib.hid hz
                    have HT := Lib.hid ht
                    have HLN := Lib.hid hln
                    have hn1' : (1 : Int) ≤ (n : Int) := by omega
                    clear hz ht hln
                    by_cases hc1 : cap = 1
                    · have HZ1 := Lib.hid (HZ.out hc1)
                      subst hc1
                      go_wp2_with fail
                      go_ret2
                      refine ⟨⟨_, by rw [HCL.out.2]; rfl, ?_⟩, HB10.out⟩
                      rw [HCL.out.1, HZ1.out]
                      exact OwnD.nil _ _ _ _
                    · go_wp2_with fail
                      go_ret2
                      exact ⟨⟨_, by rw [HCL.out.2]; rfl, by rw [HCL.out.1]; exact HT.out hc1 _⟩, HB10.out⟩
                  · have t1 : (CC != 0) = true := by rcases hcc with e | e <;> rw [e] <;> rfl
                    have t2 : ¬ CC = 0 := by rcases hcc with e | e <;> omega
                    go_wp2_with fail
                    go_ret2
                    exact ⟨⟨_, by rw [HCL.out.2]; rfl, by rw [HCL.out.1]; exact OwnD.nil _ _ _ _⟩, HB10.out⟩)
              exact AllReadyH.nil
            exact AllReadyH.nil
          exact AllReadyH.nil
        exact AllReadyH.nil
      exact AllReadyH.nil
    exact AllReadyH.nil
  exact AllReadyH.nil
end Go.Proofs.Ytnebkhelobpkpaa

namespace Go.Proofs.Ytnebkhelobpkpaa
open Go.RowKit Go.Deep Go.Joins
set_option linter.unusedVariables false

theorem co_valid {f : Int} {n m : Nat} {Z : List (List Int)} {hs : List Int} {x : Int} (hz : Z.length = m) (hl : hs.length = m) (he : Elems f hs) : ValOk f (Z ++ [fstL n]) (hs ++ [x]) ↔ Elem f x := by
  constructor
  · intro h
    have h1 := h.2 hs.length (by simp)
    rw [nth_lt (by simp)] at h1
    simpa using h1
  · intro h
    refine ⟨by simp [hz, hl], fun i hi => ?_⟩
    rw [nth_lt hi]
    by_cases hh : i < hs.length
    · rw [List.getElem_append_left hh, ← nth_lt hh]; exact he i hh
    · have : i = hs.length := by simp at hi; omega
      subst this
      simpa using h
theorem row_in {W : World} {base e n s b : Nat} {v : Value} {xs : List Value} (h : W.ownsRow base e s v n xs) (hb : v.ownBlock = some b) : base ≤ b ∧ b < W.heap.size := World.ownsRow.lt h b hb
theorem own_setm {W : World} {base B o : Nat} {v : Value} {us : List Value} {zss : List (List Int)} (h : Own W base v us zss) {vs : Array Value} (hx : Boxes W B 46 vs) (u : Value) : Own (W.setCell ⟨B, o, none⟩ u) base v us zss := ⟨row_setb h.row hx.is (by decide) u, h.rows.map fun _ _ k => row_setb k hx.is (by decide) u⟩
theorem solve_eq (q0 n ca cv m k : Nat) (p : Int) (a av : Option Addr) (z : List (List Int)) (v : List Int) (w : World) (hm : z.length = m) (hk : v.length = k) (hbx : Boxes w q0 46 #[.int .i64 p, .int .i64 ((n : Nat) : Int), .slice a m ca]) (hr : Rows2 w a z) (hg : GoodM p n z) (hn : n ≤ 999) (hv : Ints w av v) (hl : v.length = z.length) (he : Elems p v) :
    Calls Try.prog 72 #[.pointer (some ⟨q0, 0, none⟩), .slice av k cv] w fun e w' => (∃ u, e = .returned (.tuple #[u, .bool (tell (SolOk p n z v))]) ∧ OwnI w' w.heap.size u (solL p n z v)) ∧ Below w.heap.size w w' := by subst hm; subst hk; exact l03Solve_any q0 n ca cv p a av z v w hbx hr hg hn hv hl he

set_option maxRecDepth 100000 in
set_option maxHeartbeats 8000000 in
theorem specCo_any (h f l : Int) (ao : Option Addr) (yo : List Int) (co : Nat) (a : Option Addr) (z : List (List Int)) (c : Nat) (ag : Option Addr) (gs : List Int) (cg : Nat) (ah : Option Addr) (hs : List Int) (ch : Nat) (x : Int) (w : World) (hr : InS w ao yo a z) (hl : LenS yo z) (hg : Ints w ag gs) (hlg : gs.length ≤ 9223372036854775807) (hh : Ints w ah hs) (hlh : hs.length ≤ 9223372036854775807) :
    Calls Try.prog 26 #[.agg #[.int .i64 h, .slice ao yo.length co, .int .i64 f, .int .i64 l, .slice a z.length c], .slice ag gs.length cg, .slice ah hs.length ch, .int .i64 x] w (GivesTail w (coL h f l yo z gs hs x) (coC h f l yo z gs hs x)) := by
  have HL := Lib.hid hl
  have hb1 := al_b w (.cells #[.int .i64 h, .slice ao yo.length co, .int .i64 f, .int .i64 l, .slice a z.length c] 48)
  have HX := Lib.hid (show Boxes (w.alloc (.cells #[.int .i64 h, .slice ao yo.length co, .int .i64 f, .int .i64 l, .slice a z.length c] 48)) w.heap.size 48 #[.int .i64 h, .slice ao yo.length co, .int .i64 f, .int .i64 l, .slice a z.length c] from World.alloc_heap_new w _)
  have HB1 := Lib.hid hb1
  have HR := Lib.hid (hr.step hb1)
  have HG := Lib.hid (hg.step hb1)
  have HH := Lib.hid (hh.step hb1)
  have HH0 := Lib.hid hh
  obtain ⟨i0, hi, hz0, hz1, hz2⟩ := info_parts Try.infoInt64
  obtain ⟨i1, ji, jz0, jz1, jz2⟩ := info_parts Try.infoInt64S
  clear hr hl hb1 hg hh
  by_cases hok : (SchOk h yo f l z ∧ IsGrp h gs) ∧ RowOk f ((partI yo gs).length : Int) hs
  case neg =>
    have hc : (wiCode h f l yo z gs hs = 1 ∨ wiCode h f l yo z gs hs = 2) := by
      by_cases h1 : SchOk h yo f l z ∧ IsGrp h gs
      · exact .inr (wi_row h1 (hs := hs) fun q => hok ⟨h1, q⟩).1
      · have := wi_grp (hs := hs) h1
        rw [this.2.1]
        exact this.1
    have HC := Lib.hid (show coL h f l yo z gs hs x = [] ∧ coC h f l yo z gs hs x = wiCode h f l yo z gs hs from by
      unfold coL coC
      have h0 : ¬ wiCode h f l yo z gs hs = 0 := by rcases hc with e | e <;> omega
      rw [if_neg h0, if_neg h0]
      exact ⟨rfl, rfl⟩)
    obtain ⟨y, hy⟩ : ∃ y, wiCode h f l yo z gs hs = y := ⟨_, rfl⟩
    have HY := Lib.hid hy
    rw [hy] at hc HC
    have t1 : (y != 0) = true := by rcases hc with e | e <;> rw [e] <;> rfl
    have t2 : ¬ y = 0 := by rcases hc with e | e <;> omega
    clear hok hc hy
    go_enter Try.func26, Try.ntmps26
    go_wp2_with fail
    refine (l04With_any w.heap.size h f l ao yo co a z c ag gs cg ah hs ch _ HX.out HR.out HL.out HG.out hlg HH.out hlh).mono ?_
    rw [HY.out]
    rintro e w2 ⟨rfl, hb2⟩
    have HB2 := Lib.hid (chain HB1.out hb2)
    clear hb2
    go_wp2_with fail
    go_ret2
    exact ⟨⟨_, by rw [HC.out.2]; rfl, by rw [HC.out.1]; exact OwnD.nil _ _ _ _⟩, HB2.out.alloc HB2.out.size _⟩
  have HW := Lib.hid (wi_ok hok.1 hok.2).1
  have HO := Lib.hid hok
  have hl1 : 1 ≤ l := hok.1.1.2.2.1
  have hl12 : l ≤ 12 := hok.1.1.2.1.2.1.2
  have hf2 : 2 ≤ f := hok.1.1.2.1.1.1
  have hf31 : f ≤ 31 := hok.1.1.2.1.1.2.1
  obtain ⟨n, rfl⟩ : ∃ n : Nat, l = (n : Int) := ⟨l.toNat, by omega⟩
  have hn1 : 1 ≤ n := by omega
  have hn12 : n ≤ 12 := by omega
  have HPG := Lib.hid (show GoodM f n (partZ yo z gs) from by have h := part_good hok.1.1 gs; rw [Int.toNat_natCast] at h; exact h)
  have hpl : (partZ yo z gs).length ≤ 20 := by rw [partZ_len]; have := partI_len yo gs; have := hok.1.1.2.2.2.1; have := hok.1.1.2.1.2.2.1; omega
  have HPI := Lib.hid (show (partI yo gs).length = (partZ yo z gs).length from (partZ_len yo z gs).symm)
  have HVL := Lib.hid (show hs.length = (partZ yo z gs).length from by rw [partZ_len]; have := hok.2.1; omega)
  have HCG := Lib.hid (co_good HPG.out (by omega) hn1)
  have HCL := Lib.hid (show coL h f (n : Int) yo z gs hs x = (snL f n (partZ yo z gs ++ [fstL n]) (hs ++ [x])).drop 1 ∧ coC h f (n : Int) yo z gs hs x = snCode f n (partZ yo z gs ++ [fstL n]) (hs ++ [x]) from by
    unfold coL coC
    rw [if_pos HW.out, if_pos HW.out, Int.toNat_natCast]
    exact ⟨rfl, rfl⟩)
  clear hok
  have HEL := Lib.hid HO.out.2.2
  obtain ⟨m, hm⟩ : ∃ m, (partZ yo z gs).length = m := ⟨_, rfl⟩
  have HM := Lib.hid hm
  have HPM := Lib.hid (show (partI yo gs).length = m from by rw [HPI.out, hm])
  have HVM := Lib.hid (show hs.length = m from by rw [HVL.out, hm])
  rw [hm] at hpl
  go_enter Try.func26, Try.ntmps26
  go_wp2_with fail
  refine (l04With_any w.heap.size h f (n : Int) ao yo co a z c ag gs cg ah hs ch _ HX.out HR.out HL.out HG.out hlg HH.out hlh).mono ?_
  generalize w.alloc (.cells #[.int .i64 h, .slice ao yo.length co, .int .i64 f, .int .i64 (n : Int), .slice a z.length c] 48) = w1 at *
  rw [HW.out]
  rintro e w2 ⟨rfl, hb2⟩
  have HB2 := Lib.hid (chain HB1.out hb2)
  have HR2 := Lib.hid (HR.out.step hb2)
  have HX2 := Lib.hid (HX.out.step hb2)
  have HG2 := Lib.hid (HG.out.step hb2)
  have d2 := HX2.out.s2
  have dl := HX2.out.lt
  have hqw : w.heap.size < w2.heap.size := HX2.out.lt
  clear hb2 HX HG HR HB1 HH hm
  by_cases hx : Elem f x
  case neg =>
    have HCC := Lib.hid (show coL h f (n : Int) yo z gs hs x = [] ∧ coC h f (n : Int) yo z gs hs x = 2 from by
      have h9 := sn_no (n := n) (show ¬ ValOk f (partZ yo z gs ++ [fstL n]) (hs ++ [x]) from fun q => hx ((co_valid HM.out HVM.out HEL.out).1 q))
      rw [HCL.out.1, HCL.out.2, h9.1, h9.2]
      exact ⟨rfl, rfl⟩)
    have t1 : (decide (0 ≤ x) && decide (x ≤ f - 1)) = false := by
      unfold Elem at hx
      by_cases h0 : 0 ≤ x
      · simp [h0]; omega
      · simp [h0]
    go_wp2_with fail
    refine (l00In_val x 0 (f - 1) false _ t1).mono ?_
    rintro e w3 ⟨rfl, rfl⟩
    go_wp2_with fail
    go_ret2
    exact ⟨⟨_, by rw [HCC.out.2]; rfl, by rw [HCC.out.1]; exact OwnD.nil _ _ _ _⟩, HB2.out.alloc HB2.out.size _⟩
  have HVO := Lib.hid ((co_valid (n := n) HM.out HVM.out HEL.out).2 hx)
  have HSN := Lib.hid (sn_yes (n := n) HVO.out)
  have t1 : (decide (0 ≤ x) && decide (x ≤ f - 1)) = true := by
    unfold Elem at hx
    simp; omega
  clear hx
  go_wp2_with fail
  refine (l00In_val x 0 (f - 1) true _ t1).mono ?_
  rintro e w3 ⟨rfl, rfl⟩
  clear t1
  go_wp2_with fail
  refine (l04Part_any w.heap.size h f (n : Int) ao yo co a z c ag gs cg w2 HX2.out HR2.out HO.out.1.1 HG2.out hlg).mono ?_
  rw [HPM.out]
  rintro e w3 ⟨⟨va, vc, us, rfl, ho⟩, hb3⟩
  have HRow := Lib.hid (show w3.ownsRow w2.heap.size 35 1 (.slice va m vc) m us from by have h9 := ho.row; rw [HM.out] at h9; exact h9)
  have HOwn := Lib.hid ho.rows
  have hb4 := al_b w3 (.cells #[.int .i64 f, .int .i64 (n : Int), .slice va m vc] 46)
  have hbx : Boxes (w3.alloc (.cells #[.int .i64 f, .int .i64 (n : Int), .slice va m vc] 46)) w3.heap.size 46 #[.int .i64 f, .int .i64 (n : Int), .slice va m vc] := World.alloc_heap_new w3 _
  have hs3 := hb3.size
  have HX4 := Lib.hid ((HX2.out.step hb3).step hb4)
  have HBX := Lib.hid hbx
  have HRow4 := Lib.hid (World.ownsRow.alloc HRow.out (.cells #[.int .i64 f, .int .i64 (n : Int), .slice va m vc] 46))
  have HOwn4 := Lib.hid (show RowsOwn (w3.alloc (.cells #[.int .i64 f, .int .i64 (n : Int), .slice va m vc] 46)) w2.heap.size us (partZ yo z gs) from HOwn.out.map fun u zs k => k.step hb4)
  have HB4 := Lib.hid ((chain HB2.out hb3).trans (hb4.mono (chain HB2.out hb3).size))
  have HNB := Lib.hid (show ∀ b, (Value.slice va m vc).ownBlock = some b → w2.heap.size ≤ b ∧ b < w3.heap.size from fun b hb => row_in HRow.out hb)
  go_upto_region 7 with fail
  have hs4 : w2.heap.size ≤ (w3.alloc (.cells #[.int .i64 f, .int .i64 (n : Int), .slice va m vc] 46)).heap.size := by simp; omega
  have hql : w3.heap.size < (w3.alloc (.cells #[.int .i64 f, .int .i64 (n : Int), .slice va m vc] 46)).heap.size := by simp
  generalize w3.alloc (.cells #[.int .i64 f, .int .i64 (n : Int), .slice va m vc] 46) = w4 at *
  generalize w3.heap.size = q at *
  have c2 := HBX.out.m2
  have cf := HBX.out.frozen 2
  have d3 := HX4.out.s3
  clear ho hb3 hb4 hbx d2 dl
  have hwl : w.heap.size < w4.heap.size := HX4.out.lt
  have HD3 := Lib.hid d3
  have MKW := Lib.hid (show ∀ w' : World, w'.heap[w.heap.size]? = w4.heap[w.heap.size]? → w'.cell? ⟨w.heap.size, 3, none⟩ = some (.int .i64 (n : Int)) from fun w' h1 => by have := HD3.out; unfold World.cell? at this ⊢; rw [h1]; exact this)
  have MK := Lib.hid (show ∀ w' : World, Below w4.heap.size w4 w' → w'.cell? ⟨w.heap.size, 3, none⟩ = some (.int .i64 (n : Int)) from fun w' hw => MKW.out w' (hw.block _ hwl))
  have MKS := Lib.hid (show ∀ (W : World) {y : Value}, W.cell? ⟨w.heap.size, 3, none⟩ = some (.int .i64 (n : Int)) → (W.setCell ⟨q, 2, none⟩ y).cell? ⟨w.heap.size, 3, none⟩ = some (.int .i64 (n : Int)) from fun W y h1 => by unfold World.cell? at h1 ⊢; rw [Below.heap_setCell _ _ _ _ (by simp; omega)]; exact h1)
  have HCN := Lib.hid (show (partZ yo z gs ++ [fstL n]).length = m + 1 from by rw [List.length_append, HM.out]; rfl)
  have HKL := Lib.hid (show (hs ++ [x]).length = m + 1 from by rw [List.length_append, HVM.out]; rfl)
  go_upto_region 7 with fail
  refine wp_region_noPanic ?_
  refine wp_region_held_drew (S := (fun w' => w'.cell? ⟨w.heap.size, 3, none⟩ = some (.int .i64 (n : Int)))) (by kernel_rfl) ?_ (fun hH => ?_)
  · exact MK.out _ (drew_step _)
  refine wpAnyH_take (i := 0) (oi := ?oi1) (v := ?v1) ?hi1 (by kernel_rfl) (by kernel_rfl) (by kernel_rfl) (fun _ _ _ h => h) (Or.inl ⟨?hw1, ?hy1⟩) hH ?rest1
  case hi1 => (simp only [List.getElem?_toArray, List.getElem?_cons_zero]; rfl)
  case hw1 => rfl
  case hy1 => (intro w hSw; (try dsimp only at hSw); go_simp; try with_reducible rfl)
  (try simp only [Act.put, List.setIfInBounds_toArray, List.set_cons_zero, List.set_cons_succ])
  refine wpAnyH_take (i := 2) (oi := ?oi2) (v := ?v2) ?hi2 (by kernel_rfl) (by kernel_rfl) (by kernel_rfl) (fun _ _ _ h => h) (Or.inl ⟨?hw2, ?hy2⟩) hH ?rest2
  case hi2 => (simp only [List.getElem?_toArray, List.getElem?_cons_succ, List.getElem?_cons_zero]; rfl)
  case hw2 => rfl
  case hy2 => (intro w hSw; (try dsimp only at hSw); go_simp; try with_reducible rfl)
  (try simp only [Act.put, List.setIfInBounds_toArray, List.set_cons_zero, List.set_cons_succ])
  refine wpAnyH_take (i := 3) (oi := ?oi3) (v := ?v3) ?hi3 (by kernel_rfl) (by kernel_rfl) (by kernel_rfl) (fun _ _ _ h => h) (Or.inl ⟨?hw3, ?hy3⟩) hH ?rest3
  case hi3 => (simp only [List.getElem?_toArray, List.getElem?_cons_succ, List.getElem?_cons_zero]; rfl)
  case hw3 => rfl
  case hy3 => (intro w hSw; (try dsimp only at hSw); go_simp; try with_reducible rfl)
  (try simp only [Act.put, List.setIfInBounds_toArray, List.set_cons_zero, List.set_cons_succ])
  refine wpAnyH_take (i := 4) (oi := ?oi4) (v := ?v4) ?hi4 (by kernel_rfl) (by kernel_rfl) (by kernel_rfl) (fun _ _ _ h => h) (Or.inl ⟨?hw4, ?hy4⟩) hH ?rest4
  case hi4 => (simp only [List.getElem?_toArray, List.getElem?_cons_succ, List.getElem?_cons_zero]; rfl)
  case hw4 => rfl
  case hy4 => (intro w hSw; (try dsimp only at hSw); go_simp; try with_reducible rfl)
  (try simp only [Act.put, List.setIfInBounds_toArray, List.set_cons_zero, List.set_cons_succ])
  refine wpAnyH_ready (rs := [1, 5]) (by kernel_rfl) (by simp) ?_
  refine AllReadyH.cons (o := ?o5) ?ho5 (fun K hK => ?step5) ?more5
  case ho5 => (simp only [List.getElem?_toArray, List.getElem?_cons_succ, List.getElem?_cons_zero]; rfl)
  case step5 =>
    go_simp
    refine hK.out _ _ ?_ (fun hH0 => ?_)
    · exact hH
    clear hK K hH
    (try simp only [Act.put, List.setIfInBounds_toArray, List.set_cons_zero, List.set_cons_succ])
    refine wpAnyH_ready (rs := [5]) (by kernel_rfl) (by simp) ?_
    refine AllReadyH.cons (o := ?o6) ?ho6 (fun K hK => ?step6) ?more6
    case ho6 => (simp only [List.getElem?_toArray, List.getElem?_cons_succ, List.getElem?_cons_zero]; rfl)
    case step6 =>
      go_simp
      go_at_call 71; refine (l04First_any n _ (by omega) (by omega)).mono ?_; rintro e w5 ⟨⟨v5, rfl, hv5⟩, hb5⟩; obtain ⟨v5a, v5c, hf5⟩ := rowForm hv5; rw [fstL_len] at hf5; subst hf5; have HV5 := Lib.hid (show OwnI w5 w4.heap.size (.slice v5a n v5c) (fstL n) from hv5); have HB5 := Lib.hid (show Below w4.heap.size w4 w5 from (drew_step w4).trans hb5); clear hv5 hb5; have hs5 := HB5.out.size; have z0 := (HBX.out.step HB5.out).m2; have zf := (HBX.out.step HB5.out).frozen 2; have zl := (HBX.out.step HB5.out).lt
      go_wp2_with fail
      refine hK.out _ _ ?_ (fun hH1 => ?_)
      · exact MK.out _ HB5.out
      clear hK K hH0
      (try simp only [Act.put, List.setIfInBounds_toArray, List.set_cons_zero, List.set_cons_succ])
      refine wpAnyH_ready (rs := [6]) (by kernel_rfl) (by simp) ?_
      refine AllReadyH.cons (o := ?o7) ?ho7 (fun K hK => ?step7) ?more7
      case ho7 => (simp only [List.getElem?_toArray, List.getElem?_cons_succ, List.getElem?_cons_zero]; rfl)
      case step7 =>
        go_simp
        refine hK.out _ _ ?_ (fun hH2 => ?_)
        · exact MK.out _ (HB5.out.alloc HB5.out.size _)
        clear hK K hH1
        (try simp only [Act.put, List.setIfInBounds_toArray, List.set_cons_zero, List.set_cons_succ])
        refine wpAnyH_ready (rs := [7]) (by kernel_rfl) (by simp) ?_
        refine AllReadyH.cons (o := ?o8) ?ho8 (fun K hK => ?step8) ?more8
        case ho8 => (simp only [List.getElem?_toArray, List.getElem?_cons_succ, List.getElem?_cons_zero]; rfl)
        case step8 =>
          refine step_append_lies _ (by rfl) _ _ 36 (by rfl) w2.heap.size 35 i1 (.slice none 0 0) 1 24 Try.underlying36 ji jz0 jz1 jz2 (by rfl) (by decide) (.slice va m vc) m us (by rfl) (World.ownsRow.alloc (row_step HRow4.out HB5.out) (.cells #[.slice v5a n v5c] 35)) ⟨w5.heap.size, 0, none⟩ 1 1 [.slice v5a n v5c] (by rfl) (by rfl) (cell_one_new _ _ _) (by simp [Value.oneCell']) (by decide) (by unfold maxLen; omega) (by omega) (by simp; omega) _ rfl ?_; intro g6 cap6 w6 hown6 hgrow6 hat6 hlt6; have HA5 := Lib.hid (HB5.out.alloc HB5.out.size (.cells #[.slice v5a n v5c] 35)); have hx6 := Boxes.grown (HBX.out.step HA5.out) hgrow6 (fun e => by have := HNB.out _ e; omega); have HX6 := Lib.hid hx6; have t0 := hx6.m2; have tf := hx6.frozen 2; have tl := hx6.lt; have HO6 := Lib.hid (show Own w6 w2.heap.size (.slice (some ⟨g6, 0, none⟩) (m + 1) cap6) (us ++ [.slice v5a n v5c]) (partZ yo z gs ++ [fstL n]) from ⟨by rw [HCN.out]; exact hown6, (HOwn4.out.snoc HB5.out HV5.out hs4).map fun u zs ho => row_other (World.ownsRow.alloc ho _) (World.ownsRow.alloc (row_step HRow4.out HB5.out) _) hgrow6 (by decide)⟩); have HB6 := Lib.hid (show Below w.heap.size w w6 from (HB4.out.trans (HA5.out.mono HB4.out.size)).grown hgrow6 (by have := HB4.out.size; simp; omega) (fun q' hq' => by have := HNB.out _ hq'; omega)); have K6 := Lib.hid (MKW.out _ ((hgrow6.block w.heap.size (by have := HA5.out.size; omega) (fun e => by have := HNB.out _ e.symm; omega)).trans (HA5.out.block _ hwl))); clear hx6 hown6 hgrow6 hat6 hlt6
          refine hK.out _ _ ?_ (fun hH3 => ?_)
          · exact K6.out
          clear hK K hH2
          (try simp only [Act.put, List.setIfInBounds_toArray, List.set_cons_zero, List.set_cons_succ])
          refine wpAnyH_take (i := 8) (oi := ?oi9) (v := ?v9) ?hi9 (by kernel_rfl) (by kernel_rfl) (by kernel_rfl) (fun _ _ _ h => h) (Or.inl ⟨?hw9, ?hy9⟩) hH3 ?rest9
          case hi9 => (simp only [List.getElem?_toArray, List.getElem?_cons_succ, List.getElem?_cons_zero]; rfl)
          case hw9 => rfl
          case hy9 => (intro w hSw; (try dsimp only at hSw); go_simp; try with_reducible rfl)
          (try simp only [Act.put, List.setIfInBounds_toArray, List.set_cons_zero, List.set_cons_succ])
          refine wpAnyH_ready (rs := [9]) (by kernel_rfl) (by simp) ?_
          refine AllReadyH.cons (o := ?o10) ?ho10 (fun K hK => ?step10) ?more10
          case ho10 => (simp only [List.getElem?_toArray, List.getElem?_cons_succ, List.getElem?_cons_zero]; rfl)
          case step10 =>
            go_simp
            refine hK.out _ _ ?_ (fun hH5 => ?_)
            · exact MKS.out _ K6.out
            clear hK K hH3
            (try simp only [Act.put, List.setIfInBounds_toArray, List.set_cons_zero, List.set_cons_succ])
            refine wpAnyH_done (by kernel_rfl) ?_ _
            refine NoPanic.normal ?_
            have HX7 := Lib.hid (HX6.out.set3d (.slice (some ⟨g6, 0, none⟩) (m + 1) cap6))
            have HR7 := Lib.hid (own_setm (o := 2) HO6.out HX6.out (.slice (some ⟨g6, 0, none⟩) (m + 1) cap6)).rows2v
            have HB7 := Lib.hid (HB6.out.setCell (p := ⟨q, 2, none⟩) (by show w.heap.size ≤ q; omega) (.slice (some ⟨g6, 0, none⟩) (m + 1) cap6))
            have HH7 := Lib.hid (HH0.out.below HB7.out (Nat.le_refl _))
            clear t0 tf tl z0 zf zl c2 cf d3 MK MKW MKS
            generalize w6.setCell ⟨q, 2, none⟩ (.slice (some ⟨g6, 0, none⟩) (m + 1) cap6) = w7 at *
            go_wp2_with fail
            refine (l00Own_any ah hs ch _ HH7.out (by rw [HVM.out]; omega)).mono ?_
            rintro e w8 ⟨⟨v8, rfl, hv8⟩, hb8⟩
            obtain ⟨v8a, v8c, hf8⟩ := rowForm hv8
            rw [HVM.out] at hf8
            subst hf8
            have HV8 := Lib.hid (show w8.ownsRow w7.heap.size 2 1 (.slice v8a m v8c) m (vals hs) from by have h9 := hv8; unfold OwnI at h9; rw [HVM.out] at h9; exact h9)
            have HX8 := Lib.hid (HX7.out.step hb8)
            have HR8 := Lib.hid (HR7.out.below hb8 (Nat.le_refl _))
            have HB8 := Lib.hid (chain HB7.out hb8)
            have HB78 := Lib.hid hb8
            have hs8 := hb8.size
            clear hv8 hb8
            go_wp2_with (at_builtin; refine wpList_append_own _ rfl _ _ 35 rfl w7.heap.size 2 i0 (.int .i64 0) 1 8 Try.underlying35 hi hz0 hz1 hz2 rfl (by decide) _ _ _ rfl (World.ownsRow.alloc HV8.out _) ⟨w8.heap.size, 0, none⟩ 1 1 [.int .i64 x] rfl rfl (cell_one_new _ _ _) (by simp [Value.oneCell']) (by unfold maxLen; omega) (by omega) (by simp; omega) ?_; intro v9 w9 hown9 hgrow9 _; obtain ⟨v9a, v9c, hf9⟩ := rowForm hown9; subst hf9; have HV9 := Lib.hid (show Ints w9 v9a (hs ++ [x]) from by have h9 : OwnI w9 w7.heap.size (.slice v9a (m + 1) v9c) (hs ++ [x]) := (by unfold OwnI; rw [HKL.out, vals_snoc]; exact hown9); exact Ints_of_own h9); have HB79 := Lib.hid (show Below w7.heap.size w7 w9 from (HB78.out.alloc hs8 _).grown hgrow9 (by simp; omega) (fun q' hq' => (row_in HV8.out hq').1)); clear hown9 hgrow9)
            have HX9 := Lib.hid (HX7.out.step HB79.out)
            have HR9 := Lib.hid (HR7.out.below HB79.out (Nat.le_refl _))
            have HB9 := Lib.hid (chain HB7.out HB79.out)
            go_wp2_with fail
            refine (solve_eq q n cap6 v9c (m + 1) (m + 1) f (some ⟨g6, 0, none⟩) v9a (partZ yo z gs ++ [fstL n]) (hs ++ [x]) w9 HCN.out HKL.out HX9.out HR9.out HCG.out (by omega) HV9.out (by rw [HKL.out, HCN.out]) HVO.out.2).mono ?_
            rintro e w10 ⟨⟨u10, rfl, hu10⟩, hb10⟩
            have HU := Lib.hid (hu10.mono HB9.out.size)
            have HB10 := Lib.hid (chain HB9.out hb10)
            clear hu10 hb10
            by_cases hsol : SolOk f n (partZ yo z gs ++ [fstL n]) (hs ++ [x])
            · have HT := Lib.hid (tell_true hsol)
              have HS := Lib.hid (sol_yes hsol)
              clear hsol
              rw [HT.out]
              have hu := HU.out
              rw [HS.out.1] at hu
              obtain ⟨g, cap, rfl, hcap, hz, ht⟩ := sol_tail hu (solZ_len ..) hn1
              have HZ := Lib.hid hz
              have HTT := Lib.hid ht
              have hn1' : (1 : Int) ≤ (n : Int) := by omega
              clear hz ht hu
              by_cases hc1 : cap = 1
              · have HZ1 := Lib.hid (HZ.out hc1)
                subst hc1
                go_wp2_with fail
                go_ret2
                refine ⟨⟨_, by rw [HCL.out.2, HSN.out.2, HS.out.2]; rfl, ?_⟩, HB10.out⟩
                rw [HCL.out.1, HSN.out.1, HS.out.1, HZ1.out]
                exact OwnD.nil _ _ _ _
              · go_wp2_with fail
                go_ret2
                refine ⟨⟨_, by rw [HCL.out.2, HSN.out.2, HS.out.2]; rfl, ?_⟩, HB10.out⟩
                rw [HCL.out.1, HSN.out.1, HS.out.1]
                exact HTT.out hc1 _
            · have HT := Lib.hid (tell_false hsol)
              have HS := Lib.hid (sol_no hsol)
              clear hsol
              rw [HT.out]
              go_wp2_with fail
              go_ret2
              refine ⟨⟨_, by rw [HCL.out.2, HSN.out.2, HS.out.2]; rfl, ?_⟩, HB10.out.alloc HB10.out.size _⟩
              rw [HCL.out.1, HSN.out.1, HS.out.1]
              exact OwnD.nil _ _ _ _
          exact AllReadyH.nil
        exact AllReadyH.nil
      exact AllReadyH.nil
    exact AllReadyH.nil
  refine AllReadyH.cons (o := ?o11) ?ho11 (fun K hK => ?step11) ?more11
  case ho11 => (simp only [List.getElem?_toArray, List.getElem?_cons_succ, List.getElem?_cons_zero]; rfl)
  case step11 =>
    go_simp
    go_at_call 71; refine (l04First_any n _ (by omega) (by omega)).mono ?_; rintro e w5 ⟨⟨v5, rfl, hv5⟩, hb5⟩; obtain ⟨v5a, v5c, hf5⟩ := rowForm hv5; rw [fstL_len] at hf5; subst hf5; have HV5 := Lib.hid (show OwnI w5 w4.heap.size (.slice v5a n v5c) (fstL n) from hv5); have HB5 := Lib.hid (show Below w4.heap.size w4 w5 from (drew_step w4).trans hb5); clear hv5 hb5; have hs5 := HB5.out.size; have z0 := (HBX.out.step HB5.out).m2; have zf := (HBX.out.step HB5.out).frozen 2; have zl := (HBX.out.step HB5.out).lt
    go_wp2_with fail
    refine hK.out _ _ ?_ (fun hH0 => ?_)
    · exact MK.out _ HB5.out
    clear hK K hH
    (try simp only [Act.put, List.setIfInBounds_toArray, List.set_cons_zero, List.set_cons_succ])
    refine wpAnyH_ready (rs := [1, 6]) (by kernel_rfl) (by simp) ?_
    refine AllReadyH.cons (o := ?o12) ?ho12 (fun K hK => ?step12) ?more12
    case ho12 => (simp only [List.getElem?_toArray, List.getElem?_cons_succ, List.getElem?_cons_zero]; rfl)
    case step12 =>
      go_simp
      refine hK.out _ _ ?_ (fun hH1 => ?_)
      · exact hH0
      clear hK K hH0
      (try simp only [Act.put, List.setIfInBounds_toArray, List.set_cons_zero, List.set_cons_succ])
      refine wpAnyH_ready (rs := [6]) (by kernel_rfl) (by simp) ?_
      refine AllReadyH.cons (o := ?o13) ?ho13 (fun K hK => ?step13) ?more13
      case ho13 => (simp only [List.getElem?_toArray, List.getElem?_cons_succ, List.getElem?_cons_zero]; rfl)
      case step13 =>
        go_simp
        refine hK.out _ _ ?_ (fun hH2 => ?_)
        · exact MK.out _ (HB5.out.alloc HB5.out.size _)
        clear hK K hH1
        (try simp only [Act.put, List.setIfInBounds_toArray, List.set_cons_zero, List.set_cons_succ])
        refine wpAnyH_ready (rs := [7]) (by kernel_rfl) (by simp) ?_
        refine AllReadyH.cons (o := ?o14) ?ho14 (fun K hK => ?step14) ?more14
        case ho14 => (simp only [List.getElem?_toArray, List.getElem?_cons_succ, List.getElem?_cons_zero]; rfl)
        case step14 =>
          refine step_append_lies _ (by rfl) _ _ 36 (by rfl) w2.heap.size 35 i1 (.slice none 0 0) 1 24 Try.underlying36 ji jz0 jz1 jz2 (by rfl) (by decide) (.slice va m vc) m us (by rfl) (World.ownsRow.alloc (row_step HRow4.out HB5.out) (.cells #[.slice v5a n v5c] 35)) ⟨w5.heap.size, 0, none⟩ 1 1 [.slice v5a n v5c] (by rfl) (by rfl) (cell_one_new _ _ _) (by simp [Value.oneCell']) (by decide) (by unfold maxLen; omega) (by omega) (by simp; omega) _ rfl ?_; intro g6 cap6 w6 hown6 hgrow6 hat6 hlt6; have HA5 := Lib.hid (HB5.out.alloc HB5.out.size (.cells #[.slice v5a n v5c] 35)); have hx6 := Boxes.grown (HBX.out.step HA5.out) hgrow6 (fun e => by have := HNB.out _ e; omega); have HX6 := Lib.hid hx6; have t0 := hx6.m2; have tf := hx6.frozen 2; have tl := hx6.lt; have HO6 := Lib.hid (show Own w6 w2.heap.size (.slice (some ⟨g6, 0, none⟩) (m + 1) cap6) (us ++ [.slice v5a n v5c]) (partZ yo z gs ++ [fstL n]) from ⟨by rw [HCN.out]; exact hown6, (HOwn4.out.snoc HB5.out HV5.out hs4).map fun u zs ho => row_other (World.ownsRow.alloc ho _) (World.ownsRow.alloc (row_step HRow4.out HB5.out) _) hgrow6 (by decide)⟩); have HB6 := Lib.hid (show Below w.heap.size w w6 from (HB4.out.trans (HA5.out.mono HB4.out.size)).grown hgrow6 (by have := HB4.out.size; simp; omega) (fun q' hq' => by have := HNB.out _ hq'; omega)); have K6 := Lib.hid (MKW.out _ ((hgrow6.block w.heap.size (by have := HA5.out.size; omega) (fun e => by have := HNB.out _ e.symm; omega)).trans (HA5.out.block _ hwl))); clear hx6 hown6 hgrow6 hat6 hlt6
          refine hK.out _ _ ?_ (fun hH3 => ?_)
          · exact K6.out
          clear hK K hH2
          (try simp only [Act.put, List.setIfInBounds_toArray, List.set_cons_zero, List.set_cons_succ])
          refine wpAnyH_take (i := 8) (oi := ?oi15) (v := ?v15) ?hi15 (by kernel_rfl) (by kernel_rfl) (by kernel_rfl) (fun _ _ _ h => h) (Or.inl ⟨?hw15, ?hy15⟩) hH3 ?rest15
          case hi15 => (simp only [List.getElem?_toArray, List.getElem?_cons_succ, List.getElem?_cons_zero]; rfl)
          case hw15 => rfl
          case hy15 => (intro w hSw; (try dsimp only at hSw); go_simp; try with_reducible rfl)
          (try simp only [Act.put, List.setIfInBounds_toArray, List.set_cons_zero, List.set_cons_succ])
          refine wpAnyH_ready (rs := [9]) (by kernel_rfl) (by simp) ?_
          refine AllReadyH.cons (o := ?o16) ?ho16 (fun K hK => ?step16) ?more16
          case ho16 => (simp only [List.getElem?_toArray, List.getElem?_cons_succ, List.getElem?_cons_zero]; rfl)
          case step16 =>
            go_simp
            refine hK.out _ _ ?_ (fun hH5 => ?_)
            · exact MKS.out _ K6.out
            clear hK K hH3
            (try simp only [Act.put, List.setIfInBounds_toArray, List.set_cons_zero, List.set_cons_succ])
            refine wpAnyH_done (by kernel_rfl) ?_ _
            refine NoPanic.normal ?_
            have HX7 := Lib.hid (HX6.out.set3d (.slice (some ⟨g6, 0, none⟩) (m + 1) cap6))
            have HR7 := Lib.hid (own_setm (o := 2) HO6.out HX6.out (.slice (some ⟨g6, 0, none⟩) (m + 1) cap6)).rows2v
            have HB7 := Lib.hid (HB6.out.setCell (p := ⟨q, 2, none⟩) (by show w.heap.size ≤ q; omega) (.slice (some ⟨g6, 0, none⟩) (m + 1) cap6))
            have HH7 := Lib.hid (HH0.out.below HB7.out (Nat.le_refl _))
            clear t0 tf tl z0 zf zl c2 cf d3 MK MKW MKS
            generalize w6.setCell ⟨q, 2, none⟩ (.slice (some ⟨g6, 0, none⟩) (m + 1) cap6) = w7 at *
            go_wp2_with fail
            refine (l00Own_any ah hs ch _ HH7.out (by rw [HVM.out]; omega)).mono ?_
            rintro e w8 ⟨⟨v8, rfl, hv8⟩, hb8⟩
            obtain ⟨v8a, v8c, hf8⟩ := rowForm hv8
            rw [HVM.out] at hf8
            subst hf8
            have HV8 := Lib.hid (show w8.ownsRow w7.heap.size 2 1 (.slice v8a m v8c) m (vals hs) from by have h9 := hv8; unfold OwnI at h9; rw [HVM.out] at h9; exact h9)
            have HX8 := Lib.hid (HX7.out.step hb8)
            have HR8 := Lib.hid (HR7.out.below hb8 (Nat.le_refl _))
            have HB8 := Lib.hid (chain HB7.out hb8)
            have HB78 := Lib.hid hb8
            have hs8 := hb8.size
            clear hv8 hb8
            go_wp2_with (at_builtin; refine wpList_append_own _ rfl _ _ 35 rfl w7.heap.size 2 i0 (.int .i64 0) 1 8 Try.underlying35 hi hz0 hz1 hz2 rfl (by decide) _ _ _ rfl (World.ownsRow.alloc HV8.out _) ⟨w8.heap.size, 0, none⟩ 1 1 [.int .i64 x] rfl rfl (cell_one_new _ _ _) (by simp [Value.oneCell']) (by unfold maxLen; omega) (by omega) (by simp; omega) ?_; intro v9 w9 hown9 hgrow9 _; obtain ⟨v9a, v9c, hf9⟩ := rowForm hown9; subst hf9; have HV9 := Lib.hid (show Ints w9 v9a (hs ++ [x]) from by have h9 : OwnI w9 w7.heap.size (.slice v9a (m + 1) v9c) (hs ++ [x]) := (by unfold OwnI; rw [HKL.out, vals_snoc]; exact hown9); exact Ints_of_own h9); have HB79 := Lib.hid (show Below w7.heap.size w7 w9 from (HB78.out.alloc hs8 _).grown hgrow9 (by simp; omega) (fun q' hq' => (row_in HV8.out hq').1)); clear hown9 hgrow9)
            have HX9 := Lib.hid (HX7.out.step HB79.out)
            have HR9 := Lib.hid (HR7.out.below HB79.out (Nat.le_refl _))
            have HB9 := Lib.hid (chain HB7.out HB79.out)
            go_wp2_with fail
            refine (solve_eq q n cap6 v9c (m + 1) (m + 1) f (some ⟨g6, 0, none⟩) v9a (partZ yo z gs ++ [fstL n]) (hs ++ [x]) w9 HCN.out HKL.out HX9.out HR9.out HCG.out (by omega) HV9.out (by rw [HKL.out, HCN.out]) HVO.out.2).mono ?_
            rintro e w10 ⟨⟨u10, rfl, hu10⟩, hb10⟩
            have HU := Lib.hid (hu10.mono HB9.out.size)
            have HB10 := Lib.hid (chain HB9.out hb10)
            clear hu10 hb10
            by_cases hsol : SolOk f n (partZ yo z gs ++ [fstL n]) (hs ++ [x])
            · have HT := Lib.hid (tell_true hsol)
              have HS := Lib.hid (sol_yes hsol)
              clear hsol
              rw [HT.out]
              have hu := HU.out
              rw [HS.out.1] at hu
              obtain ⟨g, cap, rfl, hcap, hz, ht⟩ := sol_tail hu (solZ_len ..) hn1
              have HZ := Lib.hid hz
              have HTT := Lib.hid ht
              have hn1' : (1 : Int) ≤ (n : Int) := by omega
              clear hz ht hu
              by_cases hc1 : cap = 1
              · have HZ1 := Lib.hid (HZ.out hc1)
                subst hc1
                go_wp2_with fail
                go_ret2
                refine ⟨⟨_, by rw [HCL.out.2, HSN.out.2, HS.out.2]; rfl, ?_⟩, HB10.out⟩
                rw [HCL.out.1, HSN.out.1, HS.out.1, HZ1.out]
                exact OwnD.nil _ _ _ _
              · go_wp2_with fail
                go_ret2
                refine ⟨⟨_, by rw [HCL.out.2, HSN.out.2, HS.out.2]; rfl, ?_⟩, HB10.out⟩
                rw [HCL.out.1, HSN.out.1, HS.out.1]
                exact HTT.out hc1 _
            · have HT := Lib.hid (tell_false hsol)
              have HS := Lib.hid (sol_no hsol)
              clear hsol
              rw [HT.out]
              go_wp2_with fail
              go_ret2
              refine ⟨⟨_, by rw [HCL.out.2, HSN.out.2, HS.out.2]; rfl, ?_⟩, HB10.out.alloc HB10.out.size _⟩
              rw [HCL.out.1, HSN.out.1, HS.out.1]
              exact OwnD.nil _ _ _ _
          exact AllReadyH.nil
        exact AllReadyH.nil
      exact AllReadyH.nil
    refine AllReadyH.cons (o := ?o17) ?ho17 (fun K hK => ?step17) ?more17
    case ho17 => (simp only [List.getElem?_toArray, List.getElem?_cons_succ, List.getElem?_cons_zero]; rfl)
    case step17 =>
      go_simp
      refine hK.out _ _ ?_ (fun hH1 => ?_)
      · exact MK.out _ (HB5.out.alloc HB5.out.size _)
      clear hK K hH0
      (try simp only [Act.put, List.setIfInBounds_toArray, List.set_cons_zero, List.set_cons_succ])
      refine wpAnyH_ready (rs := [1]) (by kernel_rfl) (by simp) ?_
      refine AllReadyH.cons (o := ?o18) ?ho18 (fun K hK => ?step18) ?more18
      case ho18 => (simp only [List.getElem?_toArray, List.getElem?_cons_succ, List.getElem?_cons_zero]; rfl)
      case step18 =>
        go_simp
        refine hK.out _ _ ?_ (fun hH2 => ?_)
        · exact hH1
        clear hK K hH1
        (try simp only [Act.put, List.setIfInBounds_toArray, List.set_cons_zero, List.set_cons_succ])
        refine wpAnyH_ready (rs := [7]) (by kernel_rfl) (by simp) ?_
        refine AllReadyH.cons (o := ?o19) ?ho19 (fun K hK => ?step19) ?more19
        case ho19 => (simp only [List.getElem?_toArray, List.getElem?_cons_succ, List.getElem?_cons_zero]; rfl)
        case step19 =>
          refine step_append_lies _ (by rfl) _ _ 36 (by rfl) w2.heap.size 35 i1 (.slice none 0 0) 1 24 Try.underlying36 ji jz0 jz1 jz2 (by rfl) (by decide) (.slice va m vc) m us (by rfl) (World.ownsRow.alloc (row_step HRow4.out HB5.out) (.cells #[.slice v5a n v5c] 35)) ⟨w5.heap.size, 0, none⟩ 1 1 [.slice v5a n v5c] (by rfl) (by rfl) (cell_one_new _ _ _) (by simp [Value.oneCell']) (by decide) (by unfold maxLen; omega) (by omega) (by simp; omega) _ rfl ?_; intro g6 cap6 w6 hown6 hgrow6 hat6 hlt6; have HA5 := Lib.hid (HB5.out.alloc HB5.out.size (.cells #[.slice v5a n v5c] 35)); have hx6 := Boxes.grown (HBX.out.step HA5.out) hgrow6 (fun e => by have := HNB.out _ e; omega); have HX6 := Lib.hid hx6; have t0 := hx6.m2; have tf := hx6.frozen 2; have tl := hx6.lt; have HO6 := Lib.hid (show Own w6 w2.heap.size (.slice (some ⟨g6, 0, none⟩) (m + 1) cap6) (us ++ [.slice v5a n v5c]) (partZ yo z gs ++ [fstL n]) from ⟨by rw [HCN.out]; exact hown6, (HOwn4.out.snoc HB5.out HV5.out hs4).map fun u zs ho => row_other (World.ownsRow.alloc ho _) (World.ownsRow.alloc (row_step HRow4.out HB5.out) _) hgrow6 (by decide)⟩); have HB6 := Lib.hid (show Below w.heap.size w w6 from (HB4.out.trans (HA5.out.mono HB4.out.size)).grown hgrow6 (by have := HB4.out.size; simp; omega) (fun q' hq' => by have := HNB.out _ hq'; omega)); have K6 := Lib.hid (MKW.out _ ((hgrow6.block w.heap.size (by have := HA5.out.size; omega) (fun e => by have := HNB.out _ e.symm; omega)).trans (HA5.out.block _ hwl))); clear hx6 hown6 hgrow6 hat6 hlt6
          refine hK.out _ _ ?_ (fun hH3 => ?_)
          · exact K6.out
          clear hK K hH2
          (try simp only [Act.put, List.setIfInBounds_toArray, List.set_cons_zero, List.set_cons_succ])
          refine wpAnyH_take (i := 8) (oi := ?oi20) (v := ?v20) ?hi20 (by kernel_rfl) (by kernel_rfl) (by kernel_rfl) (fun _ _ _ h => h) (Or.inl ⟨?hw20, ?hy20⟩) hH3 ?rest20
          case hi20 => (simp only [List.getElem?_toArray, List.getElem?_cons_succ, List.getElem?_cons_zero]; rfl)
          case hw20 => rfl
          case hy20 => (intro w hSw; (try dsimp only at hSw); go_simp; try with_reducible rfl)
          (try simp only [Act.put, List.setIfInBounds_toArray, List.set_cons_zero, List.set_cons_succ])
          refine wpAnyH_ready (rs := [9]) (by kernel_rfl) (by simp) ?_
          refine AllReadyH.cons (o := ?o21) ?ho21 (fun K hK => ?step21) ?more21
          case ho21 => (simp only [List.getElem?_toArray, List.getElem?_cons_succ, List.getElem?_cons_zero]; rfl)
          case step21 =>
            go_simp
            refine hK.out _ _ ?_ (fun hH5 => ?_)
            · exact MKS.out _ K6.out
            clear hK K hH3
            (try simp only [Act.put, List.setIfInBounds_toArray, List.set_cons_zero, List.set_cons_succ])
            refine wpAnyH_done (by kernel_rfl) ?_ _
            refine NoPanic.normal ?_
            have HX7 := Lib.hid (HX6.out.set3d (.slice (some ⟨g6, 0, none⟩) (m + 1) cap6))
            have HR7 := Lib.hid (own_setm (o := 2) HO6.out HX6.out (.slice (some ⟨g6, 0, none⟩) (m + 1) cap6)).rows2v
            have HB7 := Lib.hid (HB6.out.setCell (p := ⟨q, 2, none⟩) (by show w.heap.size ≤ q; omega) (.slice (some ⟨g6, 0, none⟩) (m + 1) cap6))
            have HH7 := Lib.hid (HH0.out.below HB7.out (Nat.le_refl _))
            clear t0 tf tl z0 zf zl c2 cf d3 MK MKW MKS
            generalize w6.setCell ⟨q, 2, none⟩ (.slice (some ⟨g6, 0, none⟩) (m + 1) cap6) = w7 at *
            go_wp2_with fail
            refine (l00Own_any ah hs ch _ HH7.out (by rw [HVM.out]; omega)).mono ?_
            rintro e w8 ⟨⟨v8, rfl, hv8⟩, hb8⟩
            obtain ⟨v8a, v8c, hf8⟩ := rowForm hv8
            rw [HVM.out] at hf8
            subst hf8
            have HV8 := Lib.hid (show w8.ownsRow w7.heap.size 2 1 (.slice v8a m v8c) m (vals hs) from by have h9 := hv8; unfold OwnI at h9; rw [HVM.out] at h9; exact h9)
            have HX8 := Lib.hid (HX7.out.step hb8)
            have HR8 := Lib.hid (HR7.out.below hb8 (Nat.le_refl _))
            have HB8 := Lib.hid (chain HB7.out hb8)
            have HB78 := Lib.hid hb8
            have hs8 := hb8.size
            clear hv8 hb8
            go_wp2_with (at_builtin; refine wpList_append_own _ rfl _ _ 35 rfl w7.heap.size 2 i0 (.int .i64 0) 1 8 Try.underlying35 hi hz0 hz1 hz2 rfl (by decide) _ _ _ rfl (World.ownsRow.alloc HV8.out _) ⟨w8.heap.size, 0, none⟩ 1 1 [.int .i64 x] rfl rfl (cell_one_new _ _ _) (by simp [Value.oneCell']) (by unfold maxLen; omega) (by omega) (by simp; omega) ?_; intro v9 w9 hown9 hgrow9 _; obtain ⟨v9a, v9c, hf9⟩ := rowForm hown9; subst hf9; have HV9 := Lib.hid (show Ints w9 v9a (hs ++ [x]) from by have h9 : OwnI w9 w7.heap.size (.slice v9a (m + 1) v9c) (hs ++ [x]) := (by unfold OwnI; rw [HKL.out, vals_snoc]; exact hown9); exact Ints_of_own h9); have HB79 := Lib.hid (show Below w7.heap.size w7 w9 from (HB78.out.alloc hs8 _).grown hgrow9 (by simp; omega) (fun q' hq' => (row_in HV8.out hq').1)); clear hown9 hgrow9)
            have HX9 := Lib.hid (HX7.out.step HB79.out)
            have HR9 := Lib.hid (HR7.out.below HB79.out (Nat.le_refl _))
            have HB9 := Lib.hid (chain HB7.out HB79.out)
            go_wp2_with fail
            refine (solve_eq q n cap6 v9c (m + 1) (m + 1) f (some ⟨g6, 0, none⟩) v9a (partZ yo z gs ++ [fstL n]) (hs ++ [x]) w9 HCN.out HKL.out HX9.out HR9.out HCG.out (by omega) HV9.out (by rw [HKL.out, HCN.out]) HVO.out.2).mono ?_
            rintro e w10 ⟨⟨u10, rfl, hu10⟩, hb10⟩
            have HU := Lib.hid (hu10.mono HB9.out.size)
            have HB10 := Lib.hid (chain HB9.out hb10)
            clear hu10 hb10
            by_cases hsol : SolOk f n (partZ yo z gs ++ [fstL n]) (hs ++ [x])
            · have HT := Lib.hid (tell_true hsol)
              have HS := Lib.hid (sol_yes hsol)
              clear hsol
              rw [HT.out]
              have hu := HU.out
              rw [HS.out.1] at hu
              obtain ⟨g, cap, rfl, hcap, hz, ht⟩ := sol_tail hu (solZ_len ..) hn1
              have HZ := Lib.hid hz
              have HTT := Lib.hid ht
              have hn1' : (1 : Int) ≤ (n : Int) := by omega
              clear hz ht hu
              by_cases hc1 : cap = 1
              · have HZ1 := Lib.hid (HZ.out hc1)
                subst hc1
                go_wp2_with fail
                go_ret2
                refine ⟨⟨_, by rw [HCL.out.2, HSN.out.2, HS.out.2]; rfl, ?_⟩, HB10.out⟩
                rw [HCL.out.1, HSN.out.1, HS.out.1, HZ1.out]
                exact OwnD.nil _ _ _ _
              · go_wp2_with fail
                go_ret2
                refine ⟨⟨_, by rw [HCL.out.2, HSN.out.2, HS.out.2]; rfl, ?_⟩, HB10.out⟩
                rw [HCL.out.1, HSN.out.1, HS.out.1]
                exact HTT.out hc1 _
            · have HT := Lib.hid (tell_false hsol)
              have HS := Lib.hid (sol_no hsol)
              clear hsol
              rw [HT.out]
              go_wp2_with fail
              go_ret2
              refine ⟨⟨_, by rw [HCL.out.2, HSN.out.2, HS.out.2]; rfl, ?_⟩, HB10.out.alloc HB10.out.size _⟩
              rw [HCL.out.1, HSN.out.1, HS.out.1]
              exact OwnD.nil _ _ _ _
          exact AllReadyH.nil
        exact AllReadyH.nil
      exact AllReadyH.nil
    exact AllReadyH.nil
  exact AllReadyH.nil
end Go.Proofs.Ytnebkhelobpkpaa

namespace Go.Proofs.Ytnebkhelobpkpaa
open Go.ChangeShapes Go.WideShapes Go.ChangeAt Go.RowKit Go.Deep
set_option linter.unusedVariables false
namespace Compl

/-- What is carried over the second half. -/
structure Carry (v4 : World) (g0 : Nat) (yo0 : List Int) (z0 : List (List Int)) (px0 : Nat) (h0 : Int) (f0 : Int) (l0 : Int) (g1 : Nat) (z1 : List Int) (g2 : Nat) (z2 : List Int) (bs : Nat) (ag : Option Addr) (cg : Nat) (rl : List Int) (W : World) : Prop where
  e : Below v4.heap.size v4 W
  x0 : OwnS W g0 yo0 z0
  b0 : Boxes W px0 48 #[.int .i64 h0, .slice (some ⟨g0, 0, none⟩) yo0.length yo0.length, .int .i64 f0, .int .i64 l0, .slice (some ⟨g0 + 4, 0, none⟩) z0.length z0.length]
  x1 : OwnI W g1 (.slice (some ⟨g1, 0, none⟩) z1.length z1.length) z1
  x2 : OwnI W g2 (.slice (some ⟨g2, 0, none⟩) z2.length z2.length) z2
  g : OwnD W bs (.slice ag rl.length cg) rl

theorem Carry.step {v4 : World} {g0 : Nat} {yo0 : List Int} {z0 : List (List Int)} {px0 : Nat} {h0 : Int} {f0 : Int} {l0 : Int} {g1 : Nat} {z1 : List Int} {g2 : Nat} {z2 : List Int} {bs : Nat} {ag : Option Addr} {cg : Nat} {rl : List Int} {W W' : World} (hb : Below W.heap.size W W') (k : Carry v4 g0 yo0 z0 px0 h0 f0 l0 g1 z1 g2 z2 bs ag cg rl W) : Carry v4 g0 yo0 z0 px0 h0 f0 l0 g1 z1 g2 z2 bs ag cg rl W' := ⟨chain k.e hb, k.x0.step hb, k.b0.step hb, k.x1.step hb, k.x2.step hb, k.g.step hb⟩
theorem keep10 {w w' : World} {p1 p2 p3 p4 p5 p6 p7 p8 p9 p10 : Addr} {u1 u2 u3 u4 u5 u6 u7 u8 u9 u10 : Value} {C : World → Prop} (hb : Below w.heap.size w w') (hC : C w → C w') (h : w.cell? p1 = some u1 ∧ w.cell? p2 = some u2 ∧ w.cell? p3 = some u3 ∧ w.cell? p4 = some u4 ∧ w.cell? p5 = some u5 ∧ w.cell? p6 = some u6 ∧ w.cell? p7 = some u7 ∧ w.cell? p8 = some u8 ∧ w.cell? p9 = some u9 ∧ w.cell? p10 = some u10 ∧ C w) : w'.cell? p1 = some u1 ∧ w'.cell? p2 = some u2 ∧ w'.cell? p3 = some u3 ∧ w'.cell? p4 = some u4 ∧ w'.cell? p5 = some u5 ∧ w'.cell? p6 = some u6 ∧ w'.cell? p7 = some u7 ∧ w'.cell? p8 = some u8 ∧ w'.cell? p9 = some u9 ∧ w'.cell? p10 = some u10 ∧ C w' :=
  ⟨cell_step hb h.1, cell_step hb h.2.1, cell_step hb h.2.2.1, cell_step hb h.2.2.2.1, cell_step hb h.2.2.2.2.1, cell_step hb h.2.2.2.2.2.1, cell_step hb h.2.2.2.2.2.2.1, cell_step hb h.2.2.2.2.2.2.2.1, cell_step hb h.2.2.2.2.2.2.2.2.1, cell_step hb h.2.2.2.2.2.2.2.2.2.1, hC h.2.2.2.2.2.2.2.2.2.2⟩

set_option maxHeartbeats 4000000 in
set_option maxRecDepth 100000 in
theorem law_of (h0 f0 l0 : Int) (ao0 : Option Addr) (yo0 : List Int) (co0 : Nat) (a0 : Option Addr) (z0 : List (List Int)) (c0 : Nat) (a1 : Option Addr) (z1 : List Int) (c1 : Nat) (a2 : Option Addr) (z2 : List Int) (c2 : Nat) (x3 : Int) (rl : List Int) (rc : Int) (w : World) (hr0 : InS w ao0 yo0 a0 z0) (hl0 : LenS yo0 z0) (wfh0 : (Lit.int .i64 h0).wf = true) (wff0 : (Lit.int .i64 f0).wf = true) (wfl0 : (Lit.int .i64 l0).wf = true) (hr1 : Ints w a1 z1) (hl1 : z1.length ≤ 9223372036854775807) (hr2 : Ints w a2 z2) (hl2 : z2.length ≤ 9223372036854775807) (wf3 : (Lit.int .i64 x3).wf = true)
    
    (hS : ∀ (bo0 : Option Addr) (eo0 : Nat) (b0 : Option Addr) (d0 : Nat) (b1 : Option Addr) (d1 : Nat) (b2 : Option Addr) (d2 : Nat) (W : World), InS W bo0 yo0 b0 z0 → SmS yo0 z0 → Ints W b1 z1 → z1.length ≤ 1048576 → Ints W b2 z2 → z2.length ≤ 1048576 → Calls Try.prog 26 #[.agg #[.int .i64 h0, .slice bo0 yo0.length eo0, .int .i64 f0, .int .i64 l0, .slice b0 z0.length d0], .slice b1 z1.length d1, .slice b2 z2.length d2, .int .i64 x3] W (GivesTail W rl rc))
    (hI : ∀ (bo0 : Option Addr) (eo0 : Nat) (b0 : Option Addr) (d0 : Nat) (b1 : Option Addr) (d1 : Nat) (b2 : Option Addr) (d2 : Nat) (W : World), InS W bo0 yo0 b0 z0 → SmS yo0 z0 → Ints W b1 z1 → z1.length ≤ 1048576 → Ints W b2 z2 → z2.length ≤ 1048576 → Calls Try.prog 28 #[.agg #[.int .i64 h0, .slice bo0 yo0.length eo0, .int .i64 f0, .int .i64 l0, .slice b0 z0.length d0], .slice b1 z1.length d1, .slice b2 z2.length d2, .int .i64 x3] W (GivesTail W rl rc))
    (hsm : rl.length ≤ 1048576) :
    Calls Try.prog 5 #[.agg #[.int .i64 h0, .slice ao0 yo0.length co0, .int .i64 f0, .int .i64 l0, .slice a0 z0.length c0], .slice a1 z1.length c1, .slice a2 z2.length c2, .int .i64 x3] w fun e w' => e = .returned (.bool true) ∧ Below w.heap.size w w' := by
  have HSP := Lib.hid hS
  have HIM := Lib.hid hI
  clear hS hI
  by_cases hbig1 : 1048576 < z1.length
  · have t1 : (1048576 : Int) < (z1.length : Int) := by omega
    go_enter Try.func5, Try.ntmps5
    go_wp2_with fail
    go_ret
    exact ⟨rfl, by first | exact Below.refl _ _ | go_grown⟩
  have hs1 : z1.length ≤ 1048576 := by omega
  clear hbig1
  by_cases hbig2 : 1048576 < z2.length
  · have t1 : (1048576 : Int) < (z2.length : Int) := by omega
    go_enter Try.func5, Try.ntmps5
    go_wp2_with fail
    go_ret
    exact ⟨rfl, by first | exact Below.refl _ _ | go_grown⟩
  have hs2 : z2.length ≤ 1048576 := by omega
  clear hbig2
  have D := Lib.hid (Below.refl w.heap.size w)
  have R0 := Lib.hid hr0
  clear hr0
  have L0 := Lib.hid hl0
  clear hl0
  have R1 := Lib.hid hr1
  clear hr1
  have R2 := Lib.hid hr2
  clear hr2
  go_enter Try.func5, Try.ntmps5
  go_wp2_with fail
  have hb := (Below.refl (w).heap.size (w)).alloc (Nat.le_refl _) (.cells #[.int .i64 h0, .slice ao0 yo0.length co0, .int .i64 f0, .int .i64 l0, .slice a0 z0.length c0] 40)
  have ha0 : Boxes ((w).alloc (.cells #[.int .i64 h0, .slice ao0 yo0.length co0, .int .i64 f0, .int .i64 l0, .slice a0 z0.length c0] 40)) (w).heap.size 40 #[.int .i64 h0, .slice ao0 yo0.length co0, .int .i64 f0, .int .i64 l0, .slice a0 z0.length c0] := World.alloc_heap_new _ _
  replace D := Lib.hid (chain D.out hb)
  replace R0 := Lib.hid (R0.out.step hb)
  replace R1 := Lib.hid (R1.out.step hb)
  replace R2 := Lib.hid (R2.out.step hb)
  clear hb
  skip
  generalize hv1 : (w).alloc (.cells #[.int .i64 h0, .slice ao0 yo0.length co0, .int .i64 f0, .int .i64 l0, .slice a0 z0.length c0] 40) = v1 at *
  have B0 := Lib.hid ha0
  clear ha0
  clear hv1
  refine (szScheme2_any h0 f0 l0 ao0 yo0 co0 a0 z0 c0 1048576 _ R0.out (by omega) (by omega) L0.out).mono ?_
  rintro e w1 ⟨⟨u0, hu0, rfl⟩, hb⟩
  replace D := Lib.hid (chain D.out hb)
  replace R0 := Lib.hid (R0.out.step hb)
  replace R1 := Lib.hid (R1.out.step hb)
  replace R2 := Lib.hid (R2.out.step hb)
  replace B0 := Lib.hid (B0.out.step hb)
  clear hb
  rcases hu0 with rfl | ⟨hu00, hut0, hu01, hsm0⟩
  · go_wp2_with fail
    go_ret
    exact ⟨rfl, D.out⟩
  have S0 := Lib.hid hsm0
  have hz0 : z0.length ≤ 1048576 := hsm0.r.1
  clear hsm0
  have TT0 := Lib.hid hut0
  clear hut0
  have B0c0 := (B0.out).s0
  have B0c1 := (B0.out).s1
  have B0c2 := (B0.out).s2
  have B0c3 := (B0.out).s3
  have B0c4 := (B0.out).s4
  have B0lt := (B0.out).lt
  go_wp2_with fail
  clear B0c0 B0c1 B0c2 B0c3 B0c4 B0lt
  refine (toScheme_any h0 f0 l0 ao0 yo0 co0 a0 z0 c0 _ R0.out S0.out).mono ?_
  rintro e w2 ⟨rfl, hz, hrow, hb⟩
  replace D := Lib.hid (chain D.out hb)
  replace R0 := Lib.hid (R0.out.step hb)
  replace R1 := Lib.hid (R1.out.step hb)
  replace R2 := Lib.hid (R2.out.step hb)
  replace B0 := Lib.hid (B0.out.step hb)
  have M0 := Lib.hid (hrow.rows)
  clear hb hrow hz
  have B0c0 := (B0.out).s0
  have B0c1 := (B0.out).s1
  have B0c2 := (B0.out).s2
  have B0c3 := (B0.out).s3
  have B0c4 := (B0.out).s4
  have B0lt := (B0.out).lt
  go_wp2_with fail
  clear B0c0 B0c1 B0c2 B0c3 B0c4 B0lt
  refine (toInt64S_any a1 z1 c1 _ R1.out hs1).mono ?_
  rintro e w3 ⟨rfl, hz, hrow, hb⟩
  replace D := Lib.hid (chain D.out hb)
  replace R0 := Lib.hid (R0.out.step hb)
  replace R1 := Lib.hid (R1.out.step hb)
  replace R2 := Lib.hid (R2.out.step hb)
  replace B0 := Lib.hid (B0.out.step hb)
  replace M0 := Lib.hid (M0.out.step hb)
  have M1 := Lib.hid (Ints.of_row hrow)
  clear hb hrow hz
  have B0c0 := (B0.out).s0
  have B0c1 := (B0.out).s1
  have B0c2 := (B0.out).s2
  have B0c3 := (B0.out).s3
  have B0c4 := (B0.out).s4
  have B0lt := (B0.out).lt
  go_wp2_with fail
  clear B0c0 B0c1 B0c2 B0c3 B0c4 B0lt
  refine (toInt64S_any a2 z2 c2 _ R2.out hs2).mono ?_
  rintro e w4 ⟨rfl, hz, hrow, hb⟩
  replace D := Lib.hid (chain D.out hb)
  replace R0 := Lib.hid (R0.out.step hb)
  replace R1 := Lib.hid (R1.out.step hb)
  replace R2 := Lib.hid (R2.out.step hb)
  replace B0 := Lib.hid (B0.out.step hb)
  replace M0 := Lib.hid (M0.out.step hb)
  replace M1 := Lib.hid (M1.out.step hb)
  have M2 := Lib.hid (Ints.of_row hrow)
  clear hb hrow hz
  have B0c0 := (B0.out).s0
  have B0c1 := (B0.out).s1
  have B0c2 := (B0.out).s2
  have B0c3 := (B0.out).s3
  have B0c4 := (B0.out).s4
  have B0lt := (B0.out).lt
  go_wp2_with fail
  clear B0c0 B0c1 B0c2 B0c3 B0c4 B0lt
  refine (HSP.out _ _ _ _ _ _ _ _ _ M0.out S0.out M1.out hs1 M2.out hs2).mono ?_
  rintro e w5 ⟨⟨v0, rfl, hv⟩, hb⟩
  obtain ⟨a, c, rfl, hw0, _⟩ := hv.ints hsm
  replace D := Lib.hid (chain D.out hb)
  replace R0 := Lib.hid (R0.out.step hb)
  replace R1 := Lib.hid (R1.out.step hb)
  replace R2 := Lib.hid (R2.out.step hb)
  replace B0 := Lib.hid (B0.out.step hb)
  have W0 := Lib.hid hw0
  clear hb hw0 hv M0 M1 M2
  have B0c0 := (B0.out).s0
  have B0c1 := (B0.out).s1
  have B0c2 := (B0.out).s2
  have B0c3 := (B0.out).s3
  have B0c4 := (B0.out).s4
  have B0lt := (B0.out).lt
  go_wp2_with fail
  clear B0c0 B0c1 B0c2 B0c3 B0c4 B0lt
  generalize w5 = v4 at *
  have E := Lib.hid (Below.refl v4.heap.size v4)
  refine (toScheme_any h0 f0 l0 ao0 yo0 co0 a0 z0 c0 _ (R0.out.step E.out) S0.out).mono ?_
  rintro e w6 ⟨rfl, hz, hrow, hb⟩
  obtain ⟨g0, hg0⟩ : ∃ g, v4.heap.size + 3 = g := ⟨_, rfl⟩
  rw [hg0] at hrow ⊢
  have hlo : v4.heap.size ≤ g0 := by omega
  replace E := Lib.hid (chain E.out hb)
  have X0 := Lib.hid hrow
  have G0 := Lib.hid (show v4.heap.size ≤ g0 ∧ g0 + 5 + z0.length ≤ w6.heap.size from ⟨hlo, by omega⟩)
  clear hb hrow hz hg0 hlo
  have B0c0 := (B0.out.step E.out).s0
  have B0c1 := (B0.out.step E.out).s1
  have B0c2 := (B0.out.step E.out).s2
  have B0c3 := (B0.out.step E.out).s3
  have B0c4 := (B0.out.step E.out).s4
  have B0lt := (B0.out.step E.out).lt
  go_wp2_with fail
  clear B0c0 B0c1 B0c2 B0c3 B0c4 B0lt
  have hsz : w6.heap.size ≤ (w6.alloc (.cells #[.int .i64 h0, .slice (some ⟨g0, 0, none⟩) yo0.length yo0.length, .int .i64 f0, .int .i64 l0, .slice (some ⟨g0 + 4, 0, none⟩) z0.length z0.length] 48)).heap.size := by simp
  replace G0 := Lib.hid (show v4.heap.size ≤ g0 ∧ g0 + 5 + z0.length ≤ (w6.alloc (.cells #[.int .i64 h0, .slice (some ⟨g0, 0, none⟩) yo0.length yo0.length, .int .i64 f0, .int .i64 l0, .slice (some ⟨g0 + 4, 0, none⟩) z0.length z0.length] 48)).heap.size from ⟨G0.out.1, Nat.le_trans G0.out.2 hsz⟩)
  have HPX0 := Lib.hid (show v4.heap.size ≤ w6.heap.size from E.out.size)
  clear hsz
  have hb := (Below.refl w6.heap.size w6).alloc (Nat.le_refl _) (.cells #[.int .i64 h0, .slice (some ⟨g0, 0, none⟩) yo0.length yo0.length, .int .i64 f0, .int .i64 l0, .slice (some ⟨g0 + 4, 0, none⟩) z0.length z0.length] 48)
  have ha : Boxes (w6.alloc (.cells #[.int .i64 h0, .slice (some ⟨g0, 0, none⟩) yo0.length yo0.length, .int .i64 f0, .int .i64 l0, .slice (some ⟨g0 + 4, 0, none⟩) z0.length z0.length] 48)) w6.heap.size 48 #[.int .i64 h0, .slice (some ⟨g0, 0, none⟩) yo0.length yo0.length, .int .i64 f0, .int .i64 l0, .slice (some ⟨g0 + 4, 0, none⟩) z0.length z0.length] := World.alloc_heap_new w6 _
  generalize w6.alloc (.cells #[.int .i64 h0, .slice (some ⟨g0, 0, none⟩) yo0.length yo0.length, .int .i64 f0, .int .i64 l0, .slice (some ⟨g0 + 4, 0, none⟩) z0.length z0.length] 48) = y0 at *
  replace E := Lib.hid (chain E.out hb)
  replace X0 := Lib.hid (X0.out.step hb)
  have PX0 := Lib.hid ha
  clear hb ha
  generalize w6.heap.size = px0 at *
  refine (toInt64S_any a1 z1 c1 _ (R1.out.step E.out) hs1).mono ?_
  rintro e w7 ⟨rfl, hz, hrow, hb⟩
  obtain ⟨g1, hg1⟩ : ∃ g, y0.heap.size = g := ⟨_, rfl⟩
  rw [hg1] at hrow hz ⊢
  have hlo : v4.heap.size ≤ g1 := by have := G0.out; omega
  replace E := Lib.hid (chain E.out hb)
  replace X0 := Lib.hid (X0.out.step hb)
  replace PX0 := Lib.hid (PX0.out.step hb)
  have X1 := Lib.hid (own_of_row hrow (by unfold maxLen; omega))
  have G1 := Lib.hid (show v4.heap.size ≤ g1 ∧ g1 + 1 ≤ w7.heap.size from ⟨hlo, by omega⟩)
  have GG1 := Lib.hid (show g0 + 5 + z0.length ≤ g1 by have := G0.out; omega)
  clear hb hrow hz hg1 hlo
  have B0c0 := (B0.out.step E.out).s0
  have B0c1 := (B0.out.step E.out).s1
  have B0c2 := (B0.out.step E.out).s2
  have B0c3 := (B0.out.step E.out).s3
  have B0c4 := (B0.out.step E.out).s4
  have B0lt := (B0.out.step E.out).lt
  have PX0c0 := (PX0.out).s0
  have PX0c1 := (PX0.out).s1
  have PX0c2 := (PX0.out).s2
  have PX0c3 := (PX0.out).s3
  have PX0c4 := (PX0.out).s4
  have PX0lt := (PX0.out).lt
  go_wp2_with fail
  clear B0c0 B0c1 B0c2 B0c3 B0c4 B0lt PX0c0 PX0c1 PX0c2 PX0c3 PX0c4 PX0lt
  refine (toInt64S_any a2 z2 c2 _ (R2.out.step E.out) hs2).mono ?_
  rintro e w8 ⟨rfl, hz, hrow, hb⟩
  obtain ⟨g2, hg2⟩ : ∃ g, w7.heap.size = g := ⟨_, rfl⟩
  rw [hg2] at hrow hz ⊢
  have hlo : v4.heap.size ≤ g2 := by have := G1.out; omega
  replace E := Lib.hid (chain E.out hb)
  replace X0 := Lib.hid (X0.out.step hb)
  replace PX0 := Lib.hid (PX0.out.step hb)
  replace X1 := Lib.hid (X1.out.step hb)
  have X2 := Lib.hid (own_of_row hrow (by unfold maxLen; omega))
  have G2 := Lib.hid (show v4.heap.size ≤ g2 ∧ g2 + 1 ≤ w8.heap.size from ⟨hlo, by omega⟩)
  have GG2 := Lib.hid (show g1 + 1 ≤ g2 by have := G1.out; omega)
  clear hb hrow hz hg2 hlo
  have B0c0 := (B0.out.step E.out).s0
  have B0c1 := (B0.out.step E.out).s1
  have B0c2 := (B0.out.step E.out).s2
  have B0c3 := (B0.out.step E.out).s3
  have B0c4 := (B0.out.step E.out).s4
  have B0lt := (B0.out.step E.out).lt
  have PX0c0 := (PX0.out).s0
  have PX0c1 := (PX0.out).s1
  have PX0c2 := (PX0.out).s2
  have PX0c3 := (PX0.out).s3
  have PX0c4 := (PX0.out).s4
  have PX0lt := (PX0.out).lt
  go_wp2_with fail
  clear B0c0 B0c1 B0c2 B0c3 B0c4 B0lt PX0c0 PX0c1 PX0c2 PX0c3 PX0c4 PX0lt
  refine (HIM.out _ _ _ _ _ _ _ _ w8 X0.out.rows S0.out (Ints_of_own X1.out) hs1 (Ints_of_own X2.out) hs2).mono ?_
  rintro e w9 ⟨⟨vg, rfl, hown⟩, hb⟩
  obtain ⟨ag, cg, rfl⟩ := hown.form
  obtain ⟨bs, hbs⟩ : ∃ b, w8.heap.size = b := ⟨_, rfl⟩
  have HBS := Lib.hid (show v4.heap.size ≤ bs by have := G2.out; omega)
  have HQ := Lib.hid (show bs ≤ w9.heap.size by have := hb.size; omega)
  replace E := Lib.hid (chain E.out hb)
  replace X0 := Lib.hid (X0.out.step hb)
  replace PX0 := Lib.hid (PX0.out.step hb)
  replace X1 := Lib.hid (X1.out.step hb)
  replace X2 := Lib.hid (X2.out.step hb)
  rw [hbs] at hown
  rw [hbs] at G2
  have G := Lib.hid hown
  clear hb hown hbs
  have B0c0 := (B0.out.step E.out).s0
  have B0c1 := (B0.out.step E.out).s1
  have B0c2 := (B0.out.step E.out).s2
  have B0c3 := (B0.out.step E.out).s3
  have B0c4 := (B0.out.step E.out).s4
  have B0lt := (B0.out.step E.out).lt
  have PX0c0 := (PX0.out).s0
  have PX0c1 := (PX0.out).s1
  have PX0c2 := (PX0.out).s2
  have PX0c3 := (PX0.out).s3
  have PX0c4 := (PX0.out).s4
  have PX0lt := (PX0.out).lt
  go_wp2_with fail
  clear B0c0 B0c1 B0c2 B0c3 B0c4 B0lt PX0c0 PX0c1 PX0c2 PX0c3 PX0c4 PX0lt
  refine (eqInt64S_same ag a rl cg c _ (Ints_of_ownD G.out) (W0.out.step E.out) (by omega)).mono ?_
  rintro e w10 ⟨rfl, hq⟩
  have hb := quiet_below hq
  clear hq
  replace E := Lib.hid (chain E.out hb)
  replace X0 := Lib.hid (X0.out.step hb)
  replace PX0 := Lib.hid (PX0.out.step hb)
  replace X1 := Lib.hid (X1.out.step hb)
  replace X2 := Lib.hid (X2.out.step hb)
  replace G := Lib.hid (G.out.step hb)
  clear hb
  have K : Carry v4 g0 yo0 z0 px0 h0 f0 l0 g1 z1 g2 z2 bs ag cg rl _ := ⟨E.out, X0.out, PX0.out, X1.out, X2.out, G.out⟩
  have B0c0 := (B0.out.step E.out).s0
  have B0c1 := (B0.out.step E.out).s1
  have B0c2 := (B0.out.step E.out).s2
  have B0c3 := (B0.out.step E.out).s3
  have B0c4 := (B0.out.step E.out).s4
  have B0lt := (B0.out.step E.out).lt
  have PX0c0 := (PX0.out).s0
  have PX0c1 := (PX0.out).s1
  have PX0c2 := (PX0.out).s2
  have PX0c3 := (PX0.out).s3
  have PX0c4 := (PX0.out).s4
  have PX0lt := (PX0.out).lt
  go_wp2_with fail
  go_region_held3 (fun w' => w'.cell? ⟨w.heap.size, 0, none⟩ = some (.int .i64 h0) ∧ w'.cell? ⟨w.heap.size, 1, none⟩ = some (.slice ao0 yo0.length co0) ∧ w'.cell? ⟨w.heap.size, 2, none⟩ = some (.int .i64 f0) ∧ w'.cell? ⟨w.heap.size, 3, none⟩ = some (.int .i64 l0) ∧ w'.cell? ⟨w.heap.size, 4, none⟩ = some (.slice a0 z0.length c0) ∧ w'.cell? ⟨px0, 0, none⟩ = some (.int .i64 h0) ∧ w'.cell? ⟨px0, 1, none⟩ = some (.slice (some ⟨g0, 0, none⟩) yo0.length yo0.length) ∧ w'.cell? ⟨px0, 2, none⟩ = some (.int .i64 f0) ∧ w'.cell? ⟨px0, 3, none⟩ = some (.int .i64 l0) ∧ w'.cell? ⟨px0, 4, none⟩ = some (.slice (some ⟨g0 + 4, 0, none⟩) z0.length z0.length) ∧ Carry v4 g0 yo0 z0 px0 h0 f0 l0 g1 z1 g2 z2 bs ag cg rl w') (first | exact ⟨cell_step (drew_step _) B0c0, cell_step (drew_step _) B0c1, cell_step (drew_step _) B0c2, cell_step (drew_step _) B0c3, cell_step (drew_step _) B0c4, cell_step (drew_step _) PX0c0, cell_step (drew_step _) PX0c1, cell_step (drew_step _) PX0c2, cell_step (drew_step _) PX0c3, cell_step (drew_step _) PX0c4, K.step (drew_step _)⟩ | exact keep10 hb (fun k => k.step hb) (by assumption)) (first | (go_at_call 19; obtain ⟨_, _, _, _, _, _, _, _, _, _, KK⟩ := ‹_ ∧ _ ∧ _ ∧ _ ∧ _ ∧ _ ∧ _ ∧ _ ∧ _ ∧ _ ∧ Carry v4 g0 yo0 z0 px0 h0 f0 l0 g1 z1 g2 z2 bs ag cg rl _›; refine (toScheme_any h0 f0 l0 ao0 yo0 co0 a0 z0 c0 _ (R0.out.step KK.e) S0.out).mono ?_; rintro e wf ⟨rfl, -, hof, hb⟩; have hx1 := KK.x0.step hb; clear KK) | (go_at_call 22; refine (eqScheme_same h0 f0 l0 _ _ yo0 _ _ _ _ z0 _ _ _ hx1.rows hof.rows S0.out.lens).mono ?_; rintro e w9 ⟨rfl, hb⟩))
  clear B0c0 B0c1 B0c2 B0c3 B0c4 B0lt PX0c0 PX0c1 PX0c2 PX0c3 PX0c4 PX0lt K hb hx1 hof
  obtain ⟨-, -, -, -, -, -, -, -, -, -, K⟩ := ‹_ ∧ _ ∧ _ ∧ _ ∧ _ ∧ _ ∧ _ ∧ _ ∧ _ ∧ _ ∧ Carry v4 g0 yo0 z0 px0 h0 f0 l0 g1 z1 g2 z2 bs ag cg rl _›
  replace E := Lib.hid K.e
  replace X0 := Lib.hid K.x0
  replace PX0 := Lib.hid K.b0
  replace X1 := Lib.hid K.x1
  replace X2 := Lib.hid K.x2
  replace G := Lib.hid K.g
  clear K
  have B0c0 := (B0.out.step E.out).s0
  have B0c1 := (B0.out.step E.out).s1
  have B0c2 := (B0.out.step E.out).s2
  have B0c3 := (B0.out.step E.out).s3
  have B0c4 := (B0.out.step E.out).s4
  have B0lt := (B0.out.step E.out).lt
  have PX0c0 := (PX0.out).s0
  have PX0c1 := (PX0.out).s1
  have PX0c2 := (PX0.out).s2
  have PX0c3 := (PX0.out).s3
  have PX0c4 := (PX0.out).s4
  have PX0lt := (PX0.out).lt
  go_wp2_with fail
  clear B0c0 B0c1 B0c2 B0c3 B0c4 B0lt PX0c0 PX0c1 PX0c2 PX0c3 PX0c4 PX0lt
  refine (toInt64S_any a1 z1 c1 _ (R1.out.step E.out) hs1).mono ?_
  rintro e w11 ⟨rfl, hz, hrow, hb⟩
  replace E := Lib.hid (chain E.out hb)
  replace X0 := Lib.hid (X0.out.step hb)
  replace PX0 := Lib.hid (PX0.out.step hb)
  replace X1 := Lib.hid (X1.out.step hb)
  replace X2 := Lib.hid (X2.out.step hb)
  replace G := Lib.hid (G.out.step hb)
  have Y := Lib.hid (Ints.of_row hrow)
  clear hb hrow hz
  have B0c0 := (B0.out.step E.out).s0
  have B0c1 := (B0.out.step E.out).s1
  have B0c2 := (B0.out.step E.out).s2
  have B0c3 := (B0.out.step E.out).s3
  have B0c4 := (B0.out.step E.out).s4
  have B0lt := (B0.out.step E.out).lt
  have PX0c0 := (PX0.out).s0
  have PX0c1 := (PX0.out).s1
  have PX0c2 := (PX0.out).s2
  have PX0c3 := (PX0.out).s3
  have PX0c4 := (PX0.out).s4
  have PX0lt := (PX0.out).lt
  go_wp2_with fail
  clear B0c0 B0c1 B0c2 B0c3 B0c4 B0lt PX0c0 PX0c1 PX0c2 PX0c3 PX0c4 PX0lt
  refine (eqInt64S_same _ _ z1 _ _ _ (Ints_of_own X1.out) Y.out (by omega)).mono ?_
  rintro e w12 ⟨rfl, hq⟩
  have hb := quiet_below hq
  replace E := Lib.hid (chain E.out hb)
  replace X0 := Lib.hid (X0.out.step hb)
  replace PX0 := Lib.hid (PX0.out.step hb)
  replace X1 := Lib.hid (X1.out.step hb)
  replace X2 := Lib.hid (X2.out.step hb)
  replace G := Lib.hid (G.out.step hb)
  clear hb hq Y
  have B0c0 := (B0.out.step E.out).s0
  have B0c1 := (B0.out.step E.out).s1
  have B0c2 := (B0.out.step E.out).s2
  have B0c3 := (B0.out.step E.out).s3
  have B0c4 := (B0.out.step E.out).s4
  have B0lt := (B0.out.step E.out).lt
  have PX0c0 := (PX0.out).s0
  have PX0c1 := (PX0.out).s1
  have PX0c2 := (PX0.out).s2
  have PX0c3 := (PX0.out).s3
  have PX0c4 := (PX0.out).s4
  have PX0lt := (PX0.out).lt
  go_wp2_with fail
  clear B0c0 B0c1 B0c2 B0c3 B0c4 B0lt PX0c0 PX0c1 PX0c2 PX0c3 PX0c4 PX0lt
  refine (toInt64S_any a2 z2 c2 _ (R2.out.step E.out) hs2).mono ?_
  rintro e w13 ⟨rfl, hz, hrow, hb⟩
  replace E := Lib.hid (chain E.out hb)
  replace X0 := Lib.hid (X0.out.step hb)
  replace PX0 := Lib.hid (PX0.out.step hb)
  replace X1 := Lib.hid (X1.out.step hb)
  replace X2 := Lib.hid (X2.out.step hb)
  replace G := Lib.hid (G.out.step hb)
  have Y := Lib.hid (Ints.of_row hrow)
  clear hb hrow hz
  have B0c0 := (B0.out.step E.out).s0
  have B0c1 := (B0.out.step E.out).s1
  have B0c2 := (B0.out.step E.out).s2
  have B0c3 := (B0.out.step E.out).s3
  have B0c4 := (B0.out.step E.out).s4
  have B0lt := (B0.out.step E.out).lt
  have PX0c0 := (PX0.out).s0
  have PX0c1 := (PX0.out).s1
  have PX0c2 := (PX0.out).s2
  have PX0c3 := (PX0.out).s3
  have PX0c4 := (PX0.out).s4
  have PX0lt := (PX0.out).lt
  go_wp2_with fail
  clear B0c0 B0c1 B0c2 B0c3 B0c4 B0lt PX0c0 PX0c1 PX0c2 PX0c3 PX0c4 PX0lt
  refine (eqInt64S_same _ _ z2 _ _ _ (Ints_of_own X2.out) Y.out (by omega)).mono ?_
  rintro e w14 ⟨rfl, hq⟩
  have hb := quiet_below hq
  replace E := Lib.hid (chain E.out hb)
  replace X0 := Lib.hid (X0.out.step hb)
  replace PX0 := Lib.hid (PX0.out.step hb)
  replace X1 := Lib.hid (X1.out.step hb)
  replace X2 := Lib.hid (X2.out.step hb)
  replace G := Lib.hid (G.out.step hb)
  clear hb hq Y
  have B0c0 := (B0.out.step E.out).s0
  have B0c1 := (B0.out.step E.out).s1
  have B0c2 := (B0.out.step E.out).s2
  have B0c3 := (B0.out.step E.out).s3
  have B0c4 := (B0.out.step E.out).s4
  have B0lt := (B0.out.step E.out).lt
  have PX0c0 := (PX0.out).s0
  have PX0c1 := (PX0.out).s1
  have PX0c2 := (PX0.out).s2
  have PX0c3 := (PX0.out).s3
  have PX0c4 := (PX0.out).s4
  have PX0lt := (PX0.out).lt
  go_wp2_with fail
  clear B0c0 B0c1 B0c2 B0c3 B0c4 B0lt PX0c0 PX0c1 PX0c2 PX0c3 PX0c4 PX0lt
  refine (markScheme3_any h0 f0 l0 g0 _ _ yo0 z0 1 _ X0.out S0.out (by omega) (by omega) rfl).mono ?_
  rintro e w15 ⟨rfl, ht⟩
  have hgl := Nat.le_of_lt X0.out.top.lt
  have hk0 : (0 : Int) ≤ 1 + (yo0.length + total z0) := by have := total_nonneg z0; omega
  have hku0 : 1 + (yo0.length + total z0) ≤ 1048577 := by have := TT0.out; have := total_nonneg z0; omega
  generalize 1 + ((yo0.length : Int) + total z0) = k0 at hk0 hku0 ⊢
  replace E := Lib.hid (E.out.trans (ht.below G0.out.1 hgl))
  have hhi : g0 + 5 + z0.length ≤ bs := by have := G2.out.2; have := GG1.out; have := GG2.out; omega
  replace G := Lib.hid (ht.ownD G.out hhi)
  replace X1 := Lib.hid (ht.own X1.out (by have := GG1.out; omega))
  replace X2 := Lib.hid (ht.own X2.out (by have := GG1.out; have := GG2.out; omega))
  clear ht hgl hhi
  clear X0
  clear PX0
  go_wp2_with fail
  refine (markInt64S_any _ z1 g1 k0 _ X1.out (by omega) (by omega) (by omega)).mono ?_
  rintro e w16 ⟨rfl, hown, hsz, hgr⟩
  have ht : Touch g1 (g1 + 1) _ w16 := Touch.of_grown hgr (fun q hq => by simp [Value.ownBlock] at hq; omega)
  have hgl := Nat.le_of_lt (X1.out.lt rfl).2
  clear hown hgr hsz
  replace E := Lib.hid (E.out.trans (ht.below G1.out.1 hgl))
  have hhi : g1 + 1 ≤ bs := by have := G2.out.2; have := GG2.out; omega
  replace G := Lib.hid (ht.ownD G.out hhi)
  replace X2 := Lib.hid (ht.own X2.out (by have := GG2.out; omega))
  clear ht hgl hhi
  clear X1
  go_wp2_with fail
  refine (markInt64S_any _ z2 g2 (k0 + z1.length) _ X2.out (by omega) (by omega) (by omega)).mono ?_
  rintro e w17 ⟨rfl, hown, hsz, hgr⟩
  have ht : Touch g2 (g2 + 1) _ w17 := Touch.of_grown hgr (fun q hq => by simp [Value.ownBlock] at hq; omega)
  have hgl := Nat.le_of_lt (X2.out.lt rfl).2
  clear hown hgr hsz
  replace E := Lib.hid (E.out.trans (ht.below G2.out.1 hgl))
  have hhi : g2 + 1 ≤ bs := by have := G2.out.2; omega
  replace G := Lib.hid (ht.ownD G.out hhi)
  clear ht hgl hhi
  clear X2
  go_wp2_with fail
  refine (eqInt64S_same ag a rl cg c _ (Ints_of_ownD G.out) (W0.out.step E.out) (by omega)).mono ?_
  rintro e w18 ⟨rfl, hq⟩
  have hb := quiet_below hq
  clear hq
  replace E := Lib.hid (chain E.out hb)
  replace G := Lib.hid (G.out.step hb)
  clear hb
  go_wp2_with fail
  refine (markD_any _ rl bs 1 _ G.out (by omega) (by omega) (by omega)).mono ?_
  rintro e w19 ⟨rfl, hown, hb⟩
  replace E := Lib.hid (E.out.trans (hb.mono HBS.out))
  replace G := Lib.hid hown
  clear hown hb
  have t2 : ((1 : Int) + (rl.length : Int) != (1 : Int) + (rl.length : Int)) = false := by simp
  go_wp2_with fail
  refine (heldInt64S_any ag rl.length cg 1 _ (Ints_of_ownD G.out) (by omega) (by omega) (by omega)).mono ?_
  rintro e w20 ⟨rfl, rfl⟩
  have B0c0 := (B0.out.step E.out).s0
  have B0c1 := (B0.out.step E.out).s1
  have B0c2 := (B0.out.step E.out).s2
  have B0c3 := (B0.out.step E.out).s3
  have B0c4 := (B0.out.step E.out).s4
  have B0lt := (B0.out.step E.out).lt
  go_wp2_with fail
  clear B0c0 B0c1 B0c2 B0c3 B0c4 B0lt
  refine (toScheme_any h0 f0 l0 ao0 yo0 co0 a0 z0 c0 _ (R0.out.step E.out) S0.out).mono ?_
  rintro e w21 ⟨rfl, hz, hrow, hb⟩
  replace E := Lib.hid (chain E.out hb)
  replace G := Lib.hid (G.out.step hb)
  have M0 := Lib.hid (hrow.rows)
  clear hb hrow hz
  have B0c0 := (B0.out.step E.out).s0
  have B0c1 := (B0.out.step E.out).s1
  have B0c2 := (B0.out.step E.out).s2
  have B0c3 := (B0.out.step E.out).s3
  have B0c4 := (B0.out.step E.out).s4
  have B0lt := (B0.out.step E.out).lt
  go_wp2_with fail
  clear B0c0 B0c1 B0c2 B0c3 B0c4 B0lt
  refine (toInt64S_any a1 z1 c1 _ (R1.out.step E.out) hs1).mono ?_
  rintro e w22 ⟨rfl, hz, hrow, hb⟩
  replace E := Lib.hid (chain E.out hb)
  replace G := Lib.hid (G.out.step hb)
  replace M0 := Lib.hid (M0.out.step hb)
  have M1 := Lib.hid (Ints.of_row hrow)
  clear hb hrow hz
  have B0c0 := (B0.out.step E.out).s0
  have B0c1 := (B0.out.step E.out).s1
  have B0c2 := (B0.out.step E.out).s2
  have B0c3 := (B0.out.step E.out).s3
  have B0c4 := (B0.out.step E.out).s4
  have B0lt := (B0.out.step E.out).lt
  go_wp2_with fail
  clear B0c0 B0c1 B0c2 B0c3 B0c4 B0lt
  refine (toInt64S_any a2 z2 c2 _ (R2.out.step E.out) hs2).mono ?_
  rintro e w23 ⟨rfl, hz, hrow, hb⟩
  replace E := Lib.hid (chain E.out hb)
  replace G := Lib.hid (G.out.step hb)
  replace M0 := Lib.hid (M0.out.step hb)
  replace M1 := Lib.hid (M1.out.step hb)
  have M2 := Lib.hid (Ints.of_row hrow)
  clear hb hrow hz
  have B0c0 := (B0.out.step E.out).s0
  have B0c1 := (B0.out.step E.out).s1
  have B0c2 := (B0.out.step E.out).s2
  have B0c3 := (B0.out.step E.out).s3
  have B0c4 := (B0.out.step E.out).s4
  have B0lt := (B0.out.step E.out).lt
  go_wp2_with fail
  clear B0c0 B0c1 B0c2 B0c3 B0c4 B0lt
  refine (HIM.out _ _ _ _ _ _ _ _ _ M0.out S0.out M1.out hs1 M2.out hs2).mono ?_
  rintro e w24 ⟨⟨vh, rfl, hown⟩, hb⟩
  obtain ⟨ah, ch, rfl⟩ := hown.form
  replace E := Lib.hid (chain E.out hb)
  replace G := Lib.hid (G.out.step hb)
  have H := Lib.hid hown
  clear hb hown M0 M1 M2
  have B0c0 := (B0.out.step E.out).s0
  have B0c1 := (B0.out.step E.out).s1
  have B0c2 := (B0.out.step E.out).s2
  have B0c3 := (B0.out.step E.out).s3
  have B0c4 := (B0.out.step E.out).s4
  have B0lt := (B0.out.step E.out).lt
  go_wp2_with fail
  clear B0c0 B0c1 B0c2 B0c3 B0c4 B0lt
  refine (eqInt64S_same ah a rl ch c _ (Ints_of_ownD H.out) (W0.out.step E.out) (by omega)).mono ?_
  rintro e w25 ⟨rfl, hq⟩
  have hb := quiet_below hq
  clear hq
  replace E := Lib.hid (chain E.out hb)
  replace G := Lib.hid (G.out.step hb)
  replace H := Lib.hid (H.out.step hb)
  clear hb
  clear H
  go_wp2_with fail
  refine (heldInt64S_any ag rl.length cg 1 _ (Ints_of_ownD G.out) (by omega) (by omega) (by omega)).mono ?_
  rintro e w26 ⟨rfl, rfl⟩
  go_wp2_with fail
  go_ret
  exact ⟨rfl, D.out.trans (E.out.mono D.out.size)⟩
end Compl
end Go.Proofs.Ytnebkhelobpkpaa

namespace Go.Proofs.Ytnebkhelobpkpaa
open Go.ChangeShapes Go.WideShapes Go.ChangeAt Go.RowKit Go.Deep
set_option linter.unusedVariables false
namespace Compl

theorem law (h0 f0 l0 : Int) (ao0 : Option Addr) (yo0 : List Int) (co0 : Nat) (a0 : Option Addr) (z0 : List (List Int)) (c0 : Nat) (a1 : Option Addr) (z1 : List Int) (c1 : Nat) (a2 : Option Addr) (z2 : List Int) (c2 : Nat) (x3 : Int) (w : World) (hr0 : InS w ao0 yo0 a0 z0) (hl0 : LenS yo0 z0) (wfh0 : (Lit.int .i64 h0).wf = true) (wff0 : (Lit.int .i64 f0).wf = true) (wfl0 : (Lit.int .i64 l0).wf = true) (hr1 : Ints w a1 z1) (hl1 : z1.length ≤ 9223372036854775807) (hr2 : Ints w a2 z2) (hl2 : z2.length ≤ 9223372036854775807) (wf3 : (Lit.int .i64 x3).wf = true) :
    Calls Try.prog 5 #[.agg #[.int .i64 h0, .slice ao0 yo0.length co0, .int .i64 f0, .int .i64 l0, .slice a0 z0.length c0], .slice a1 z1.length c1, .slice a2 z2.length c2, .int .i64 x3] w fun e w' => e = .returned (.bool true) ∧ Below w.heap.size w w' :=
  law_of h0 f0 l0 ao0 yo0 co0 a0 z0 c0 a1 z1 c1 a2 z2 c2 x3 (coL h0 f0 l0 yo0 z0 z1 z2 x3) (coC h0 f0 l0 yo0 z0 z1 z2 x3) w hr0 hl0 wfh0 wff0 wfl0 hr1 hl1 hr2 hl2 wf3  (fun _ _ _ _ _ _ _ _ W r0 s0 r1 s1 r2 s2 => specCo_any h0 f0 l0 _ yo0 _ _ z0 _ _ z1 _ _ z2 _ x3 W r0 s0.lens r1 (by omega) r2 (by omega)) (fun _ _ _ _ _ _ _ _ W r0 s0 r1 s1 r2 s2 => implCo_any h0 f0 l0 _ yo0 _ _ z0 _ _ z1 _ _ z2 _ x3 W r0 s0.lens r1 (by omega) r2 (by omega)) (coL_len _ _ _ _ _ _ _ _)

theorem own : ownKnob Try.prog.godebug = none := by kernel_rfl
theorem laidOut : laidOutB Try.prog = true := by kernel_rfl

set_option maxRecDepth 100000 in
theorem lifted (os : Os) (started : os.Started) (H : Type) (enc : TypeId × Value → H) :
    ReturnsInHanded {} Try.checked os 5 .any (Rows.fnExactCompletionSpec.pre6 enc Try.prog Try.f5 Rows.fnExactCompletionRow.domain false) (Rows.fnExactCompletionSpec.post enc Try.prog Try.f5 false true false false) := by
  refine returnsInHanded_of_change (C := Try.checked) own started (by kernel_rfl) Try.func5
    (ChangeSpec.witness6 (enc := enc) (C := Try.checked) false ⟨#[], #[.agg #[.int .i64 0, .slice none 0 0, .int .i64 0, .int .i64 0, .slice none 0 0], .slice none 0 0, .slice none 0 0, .int .i64 0], []⟩ 8 (by kernel_rfl) (by kernel_rfl) (by kernel_rfl) (by kernel_rfl)) ?_
  intro W base args ds gs before hval0 hW hcnd _
  have hval : ∀ (j : Nat) t v, Try.f5.params[j]? = some t → args[j]? = some v → Value.okWide Try.prog W .any base t v := hval0
  have hW' := hW
  obtain ⟨p, q, hA0, hV, rfl, hfz, hnd⟩ := hW
  have hA : DataW.TrodAll enc Try.prog W 0 (fun _ => true) true Try.f5.params.toList args.toList ds p := hA0
  rw [Try.params5] at hA hval
  obtain ⟨v0, vs0, d0, ds0, p0, q0, hargs, rfl, rfl, h0, r0⟩ := trodAll_cons hA
  obtain ⟨v1, vs1, d1, ds1, p1, q1, rfl, rfl, rfl, h1, r1⟩ := trodAll_cons r0
  obtain ⟨v2, vs2, d2, ds2, p2, q2, rfl, rfl, rfl, h2, r2⟩ := trodAll_cons r1
  obtain ⟨v3, vs3, d3, ds3, p3, q3, rfl, rfl, rfl, h3, r3⟩ := trodAll_cons r2
  obtain ⟨rfl, rfl, rfl⟩ := trodAll_nil r3
  obtain rfl : args = #[v0, v1, v2, v3] := by cases args; simp_all
  obtain ⟨rfl, rfl⟩ := trodVars_none hV
  have k0 := h0
  have lt0 : ∀ x ∈ p0, x.block < W.heap.size := by obtain ⟨m, hm⟩ := k0; exact DataW.trod_lt m _ _ _ hm
  obtain ⟨hh0, ff0, kk0, ao0, yo0, co0, a0, z0, c0, rfl, rr0, ll0, wf0, wg0, wh0⟩ := open_sch (hval 0 40 v0 rfl rfl) h0
  have k1 := h1
  have lt1 : ∀ x ∈ p1, x.block < W.heap.size := by obtain ⟨m, hm⟩ := k1; exact DataW.trod_lt m _ _ _ hm
  obtain ⟨a1, len1, c1, rfl⟩ := okWide_slice Try.underlying35 (hval 1 35 v1 rfl rfl)
  obtain ⟨fuel1, hf1⟩ := h1
  obtain ⟨z1, rfl, rr1, ll1⟩ := open_ints1 (by simpa [Value.cells] using hf1)
  have k2 := h2
  have lt2 : ∀ x ∈ p2, x.block < W.heap.size := by obtain ⟨m, hm⟩ := k2; exact DataW.trod_lt m _ _ _ hm
  obtain ⟨a2, len2, c2, rfl⟩ := okWide_slice Try.underlying35 (hval 2 35 v2 rfl rfl)
  obtain ⟨fuel2, hf2⟩ := h2
  obtain ⟨z2, rfl, rr2, ll2⟩ := open_ints1 (by simpa [Value.cells] using hf2)
  obtain ⟨x3, rfl, rfl, rfl, w3⟩ := open_int Try.underlying2 (hval 3 2 v3 rfl rfl) h3
  clear hA0 hval0
  refine (law hh0 ff0 kk0 ao0 yo0 co0 a0 z0 c0 a1 z1 c1 a2 z2 c2 x3 W rr0 ll0 wf0 wg0 wh0 rr1 ll1 rr2 ll2 w3).mono fun e W' ⟨he, bel⟩ => ?_
  subst he
  exact ⟨_, rfl, _, _, _, [], _, [], hW', trodAll_mk1 (shut_bool Try.underlying4 _), (trodAll_cons_mk (Below.trod laidOut (by kernel_rfl) (of_decide_eq_true (by kernel_rfl)) k0 bel lt0) (trodAll_cons_mk (Below.trod laidOut (by kernel_rfl) (of_decide_eq_true (by kernel_rfl)) k1 bel lt1) (trodAll_cons_mk (Below.trod laidOut (by kernel_rfl) (of_decide_eq_true (by kernel_rfl)) k2 bel lt2) (trodAll_cons_mk (shut_int Try.underlying2 w3) trodAll_mk0)))), rfl, bel.frame _, fun h => by cases h⟩

theorem over : Rows.fnExactCompletionRow.holds Try.pinned (OpenSpec.ofChange Rows.fnExactCompletionSpec) :=
  OpenClaim.holds_of_wide 5 Try.f5 rfl rfl rfl rfl rfl rfl rfl ⟨rfl, rfl, rfl, rfl, rfl⟩ rfl rfl rfl rfl rfl (by kernel_rfl) Try.func5 (by kernel_rfl)
    (of_decide_eq_true (by kernel_rfl)) (by unfold Func.isWrapper; first | (rw [if_pos (by decide +kernel)]; kernel_rfl) | (rw [if_neg (by decide +kernel)]; exact ⟨rfl, rfl⟩))
    (fun os started H enc _ => lifted os started H enc)

theorem proved : Rows.FnExactCompletionSaid := over

end Compl
end Go.Proofs.Ytnebkhelobpkpaa

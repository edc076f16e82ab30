/- What the reduction gives: it is always there, its rows span what the given rows span, and a solution that is read off it has the given products. -/
import Derived.Test.YtekhjoenejgmaaaSo0
import Derived.Test.YtekhjoenejgmaaaGti
namespace Go.Proofs.Ytekhjoenejgmaaa
open Go.RowKit Go.Deep
set_option linter.unusedVariables false

theorem steps_ex {p : Int} {n m : Nat} {f0 : Nat → Nat → Int} (hp : Prm p) (h0 : ∀ i, i < m → ∀ j, j < n → Elem p (f0 i j)) : ∀ k, k ≤ n → ∃ f F, Steps p n m f0 k f F
  | 0, _ => ⟨f0, [], .start⟩
  | k + 1, hk => by
    obtain ⟨f, F, h⟩ := steps_ex hp h0 k (by omega)
    by_cases hz : ∀ i, F.length ≤ i → i < m → f i k = 0
    · exact ⟨f, F, .skip k f F h (by omega) hz⟩
    · have hex : ∃ s, F.length ≤ s ∧ s < m ∧ f s k ≠ 0 := by
        apply Classical.byContradiction
        intro hc
        apply hz
        intro i h1 h2
        apply Classical.byContradiction
        intro h3
        exact hc ⟨i, h1, h2, h3⟩
      obtain ⟨s, ⟨hs1, hs2, hs3⟩, hmin⟩ : ∃ s, (F.length ≤ s ∧ s < m ∧ f s k ≠ 0) ∧ ∀ i, i < s → ¬ (F.length ≤ i ∧ i < m ∧ f i k ≠ 0) := by
        obtain ⟨s0, h1⟩ := hex
        induction s0 using Nat.strongRecOn with
        | ind s ih =>
          by_cases hq : ∃ i, i < s ∧ (F.length ≤ i ∧ i < m ∧ f i k ≠ 0)
          · obtain ⟨i, hi, hh⟩ := hq
            exact ih i hi hh
          · exact ⟨s, h1, fun i hi hh => hq ⟨i, hi, hh⟩⟩
      have hel := h.elems h0
      have hpv := model_piv hp hel (by omega : k < n) hs1 hs2 hs3 (fun i a b => Classical.byContradiction fun h3 => hmin i b ⟨a, by omega, h3⟩)
      refine ⟨_, F ++ [k], .piv k f _ F h (by omega) (by omega) hpv (clm_elem hp.1 (chTo_elem (swp_elem hel (by omega) hs2) (mul_elem hp.1 _) _ _) _ _ _)⟩
theorem red_ok {p : Int} {n : Nat} {z : List (List Int)} (hg : GoodM p n z) : Steps p n z.length (fn z) n (redOf p n z).1 (echF p n z) := by
  obtain ⟨f, F, h⟩ := steps_ex hg.prm hg.elem n (Nat.le_refl _)
  exact red_steps h

theorem nthN_app1 {F G : List Nat} {j : Nat} (h : j < F.length) : nthN (F ++ G) j = nthN F j := by simp [nthN, List.getD, List.getElem?_append_left h]
theorem nthN_app2 {F : List Nat} {k : Nat} : nthN (F ++ [k]) F.length = k := by simp [nthN, List.getD]
/-- What holds along the reduction. -/
structure Red (p : Int) (n m : Nat) (f0 f : Nat → Nat → Int) (k : Nat) (F : List Nat) : Prop where
  len : F.length ≤ m
  lt : ∀ a, a < F.length → nthN F a < k
  rise : ∀ a b, a < b → b < F.length → nthN F a < nthN F b
  one : ∀ a, a < F.length → p ∣ f a (nthN F a) - 1
  off : ∀ a, a < F.length → ∀ i, i < m → i ≠ a → p ∣ f i (nthN F a)
  low : ∀ a, a < F.length → ∀ j, j < nthN F a → p ∣ f a j
  zero : ∀ i, F.length ≤ i → i < m → ∀ j, j < k → p ∣ f i j
  into : ∀ i, i < m → Sp p n m f 0 (f0 i)
  back : ∀ i, i < m → Sp p n m f0 0 (f i)

theorem Steps.red {p : Int} {n m : Nat} {f0 f : Nat → Nat → Int} {k : Nat} {F : List Nat} (h : Steps p n m f0 k f F) : Red p n m f0 f k F := by
  induction h with
  | start => exact ⟨Nat.zero_le _, fun a ha => absurd ha (Nat.not_lt_zero _), fun a b _ hb => absurd hb (Nat.not_lt_zero _), fun a ha => absurd ha (Nat.not_lt_zero _), fun a ha => absurd ha (Nat.not_lt_zero _), fun a ha => absurd ha (Nat.not_lt_zero _), fun i _ _ j hj => absurd hj (Nat.not_lt_zero _), fun i hi => Sp.row (Nat.zero_le _) hi, fun i hi => Sp.row (Nat.zero_le _) hi⟩
  | skip k f F h1 h2 h3 ih =>
    refine ⟨ih.len, fun a ha => by have := ih.lt a ha; omega, ih.rise, ih.one, ih.off, ih.low, fun i a b j hj => ?_, ih.into, ih.back⟩
    by_cases e : j = k
    · subst e; rw [h3 i a b]; exact Int.dvd_zero _
    · exact ih.zero i a b j (by omega)
  | piv k f f' F h1 h2 h3 h4 h5 ih =>
    have hz : ∀ {v : Nat → Int}, Sp p n m f F.length v → ∀ j, j < k → p ∣ v j := fun hs j hj => hs.zero_at (by omega) fun i a b => ih.zero i a b j hj
    have hq : ∀ j, j < k → p ∣ f' F.length j := hz h4.mem
    have hrow : ∀ i, i < F.length → ∀ j, j < k → p ∣ f i j → p ∣ f' i j := fun i hi j hj hd => by
      have e1 := h4.low i hi j (by omega)
      have e2 := Int.dvd_mul_of_dvd_right (b := f i k) (hq j hj)
      exact dvd_of (Int.dvd_add e1 (Int.dvd_sub hd e2)) (by omega)
    have hin : ∀ i, i < m → Sp p n m f' 0 (f i) := fun i hi => by
      by_cases e : i < F.length
      · have r1 : Sp p n m f' 0 (f' i) := Sp.row (Nat.zero_le _) hi
        have r2 : Sp p n m f' 0 (f' F.length) := Sp.row (Nat.zero_le _) h3
        exact (r1.plus (r2.smul (f i k))).congr fun j hj => dvd_of (Int.dvd_mul_of_dvd_right (b := -1) (h4.low i e j hj)) (by omega)
      · exact (h4.back i (by omega) hi).lower (Nat.zero_le _)
    have hba : ∀ i, i < m → Sp p n m f 0 (f' i) := fun i hi => by
      have r0 := h4.mem.lower (Nat.zero_le _)
      rcases Nat.lt_trichotomy i F.length with e | e | e
      · have r1 : Sp p n m f 0 (f i) := Sp.row (Nat.zero_le _) hi
        exact (r1.minus (r0.smul (f i k))).congr fun j hj => dvd_of (h4.low i e j hj) (by omega)
      · subst e; exact r0
      · exact (h4.high i e hi).1.lower (Nat.zero_le _)
    have hl : (F ++ [k]).length = F.length + 1 := by simp
    refine ⟨by rw [hl]; omega, fun a ha => ?_, fun a b hab hb => ?_, fun a ha => ?_, fun a ha i hi hne => ?_, fun a ha j hj => ?_, fun i a b j hj => ?_, fun i hi => Sp.of_rows (fun r _ hr => hin r hr) (ih.into i hi), fun i hi => Sp.of_rows (fun r _ hr => ih.back r hr) (hba i hi)⟩
    · rw [hl] at ha
      by_cases e : a < F.length
      · rw [nthN_app1 e]; have := ih.lt a e; omega
      · obtain rfl : a = F.length := by omega
        rw [nthN_app2]; omega
    · rw [hl] at hb
      have ea : a < F.length := by omega
      rw [nthN_app1 ea]
      by_cases e : b < F.length
      · rw [nthN_app1 e]; exact ih.rise a b hab e
      · obtain rfl : b = F.length := by omega
        rw [nthN_app2]; exact ih.lt a ea
    · rw [hl] at ha
      by_cases e : a < F.length
      · rw [nthN_app1 e]
        have hc := ih.lt a e
        have e1 := h4.low a e (nthN F a) (by omega)
        have e2 := Int.dvd_mul_of_dvd_right (b := f a k) (hq _ hc)
        exact dvd_of (Int.dvd_add e1 (Int.dvd_sub (ih.one a e) e2)) (by omega)
      · obtain rfl : a = F.length := by omega
        rw [nthN_app2]; exact h4.one
    · rw [hl] at ha
      by_cases e : a < F.length
      · rw [nthN_app1 e]
        have hc := ih.lt a e
        rcases Nat.lt_trichotomy i F.length with e2 | e2 | e2
        · exact hrow i e2 _ hc (ih.off a e i hi hne)
        · subst e2; exact hq _ hc
        · exact hz (h4.high i e2 hi).1 _ hc
      · obtain rfl : a = F.length := by omega
        rw [nthN_app2]
        rcases Nat.lt_trichotomy i F.length with e2 | e2 | e2
        · have d1 := h4.low i e2 k h2
          have d2 := Int.dvd_mul_of_dvd_right (b := f i k) h4.one
          exact dvd_of (Int.dvd_sub d1 d2) (by rw [Int.mul_sub]; omega)
        · exact absurd e2 hne
        · exact (h4.high i e2 hi).2
    · rw [hl] at ha
      by_cases e : a < F.length
      · rw [nthN_app1 e] at hj
        have hc := ih.lt a e
        exact hrow a e j (by omega) (ih.low a e j hj)
      · obtain rfl : a = F.length := by omega
        rw [nthN_app2] at hj
        exact hq j hj
    · rw [hl] at a
      by_cases e : j = k
      · subst e; exact (h4.high i (by omega) b).2
      · exact hz (h4.high i (by omega) b).1 j (by omega)

/-! ### Products -/
theorem dot_congr {a b a' b' : Nat → Int} : ∀ n, (∀ j, j < n → a j = a' j ∧ b j = b' j) → dotTo a b n = dotTo a' b' n
  | 0, _ => rfl
  | n + 1, h => by
    simp only [dotTo]
    rw [dot_congr n fun j hj => h j (by omega), (h n (Nat.lt_succ_self n)).1, (h n (Nat.lt_succ_self n)).2]
theorem dot_add (a a' b : Nat → Int) : ∀ n, dotTo (fun j => a j + a' j) b n = dotTo a b n + dotTo a' b n
  | 0 => rfl
  | n + 1 => by simp only [dotTo]; rw [dot_add a a' b n, Int.add_mul]; omega
theorem dot_smul (c : Int) (a b : Nat → Int) : ∀ n, dotTo (fun j => c * a j) b n = c * dotTo a b n
  | 0 => by simp [dotTo]
  | n + 1 => by simp only [dotTo]; rw [dot_smul c a b n, Int.mul_add, Int.mul_assoc]
theorem dot_zero (b : Nat → Int) : ∀ n, dotTo (fun _ => 0) b n = 0
  | 0 => rfl
  | n + 1 => by simp only [dotTo]; rw [dot_zero b n]; omega
theorem dot_zero2 (a : Nat → Int) : ∀ n, dotTo a (fun _ => 0) n = 0
  | 0 => rfl
  | n + 1 => by simp only [dotTo]; rw [dot_zero2 a n]; omega
theorem dot_dvd {p : Int} {a b : Nat → Int} : ∀ n, (∀ j, j < n → p ∣ a j) → p ∣ dotTo a b n
  | 0, _ => Int.dvd_zero _
  | n + 1, h => by
    simp only [dotTo]
    exact Int.dvd_add (dot_dvd n fun j hj => h j (by omega)) (Int.dvd_mul_of_dvd_left (h n (Nat.lt_succ_self n)))
theorem dot_mod {p : Int} {a a' b : Nat → Int} (n : Nat) (h : ∀ j, j < n → p ∣ a j - a' j) : p ∣ dotTo a b n - dotTo a' b n := by
  have h1 := dot_dvd (b := b) n h
  have h2 := dot_add a' (fun j => a j - a' j) b n
  have h3 : dotTo (fun j => a' j + (a j - a' j)) b n = dotTo a b n := dot_congr n fun j _ => ⟨by omega, rfl⟩
  rw [h3] at h2
  exact dvd_of h1 (by omega)
/-- A product with a list that is 0 but at one place, is added. -/
theorem dot_upd (u h : Nat → Int) (c : Nat) (y : Int) : ∀ n, dotTo u (fun j => if j = c then y else h j) n = dotTo u h n + if c < n then u c * (y - h c) else 0
  | 0 => by simp [dotTo]
  | n + 1 => by
    simp only [dotTo]
    rw [dot_upd u h c y n]
    by_cases e : n = c
    · subst e
      rw [if_neg (Nat.lt_irrefl n), if_pos rfl, if_pos (Nat.lt_succ_self n), Int.mul_sub]
      omega
    · rw [if_neg e]
      by_cases e2 : c < n
      · rw [if_pos e2, if_pos (by omega)]; omega
      · rw [if_neg e2, if_neg (by omega)]; omega
/-- A functional that is 0 on rows is 0 on what they span. -/
theorem Sp.dot {p : Int} {n m : Nat} {f : Nat → Nat → Int} {q : Nat} {v : Nat → Int} {b : Nat → Int} (h : ∀ i, q ≤ i → i < m → p ∣ dotTo (f i) b n) (k : Sp p n m f q v) : p ∣ dotTo v b n := by
  induction k with
  | zero v hv => exact dot_dvd n hv
  | add v u i c h1 h2 h3 h4 ih =>
    have e1 := dot_mod (b := b) n h4
    have e2 : dotTo (fun j => u j + c * f i j) b n = dotTo u b n + c * dotTo (f i) b n := by
      rw [dot_add u (fun j => c * f i j) b n, dot_smul]
    rw [e2] at e1
    exact dvd_of (Int.dvd_add e1 (Int.dvd_add ih (Int.dvd_mul_of_dvd_right (b := c) (h i h1 h2)))) (by omega)

theorem sol_other {F : List Nat} {g : Nat → Int} {j : Nat} : ∀ K, (∀ a, a < K → nthN F a ≠ j) → solAt (fun _ => 0) F g K j = 0
  | 0, _ => rfl
  | K + 1, h => by
    rw [sol_next, if_neg (fun e => h K (Nat.lt_succ_self K) e.symm)]
    exact sol_other K fun a ha => h a (by omega)
/-- The product of a row with the solution. -/
theorem sol_dot {p : Int} {n i : Nat} {u : Nat → Int} {F : List Nat} {g : Nat → Int} (hr : ∀ a b, a < b → b < F.length → nthN F a < nthN F b) (hn : ∀ a, a < F.length → nthN F a < n) (h1 : i < F.length → p ∣ u (nthN F i) - 1) (h0 : ∀ a, a < F.length → a ≠ i → p ∣ u (nthN F a)) :
    ∀ K, K ≤ F.length → p ∣ dotTo u (solAt (fun _ => 0) F g K) n - (if i < K then g i else 0)
  | 0, _ => by
    rw [if_neg (Nat.not_lt_zero _)]
    refine dvd_of (Int.dvd_zero p) ?_
    show dotTo u (fun _ => 0) n - 0 = 0
    rw [dot_zero2]; rfl
  | K + 1, hK => by
    have ih := sol_dot (g := g) hr hn h1 h0 K (by omega)
    have hF : solAt (fun _ => 0) F g (K + 1) = fun j => if j = nthN F K then g K else solAt (fun _ => 0) F g K j := by funext j; rfl
    have hz : solAt (fun _ => 0) F g K (nthN F K) = 0 := sol_other K fun a ha => by have := hr a K ha (by omega); omega
    rw [hF, dot_upd, if_pos (hn K (by omega)), hz]
    by_cases e : K = i
    · subst e
      rw [if_neg (Nat.lt_irrefl K)] at ih
      rw [if_pos (Nat.lt_succ_self K)]
      have d := Int.dvd_mul_of_dvd_left (c := g K) (h1 (by omega))
      exact dvd_of (Int.dvd_add ih d) (by simp only [Int.sub_zero, Int.sub_mul, Int.one_mul]; omega)
    · have d := Int.dvd_mul_of_dvd_left (c := g K) (h0 K (by omega) e)
      by_cases e2 : i < K
      · rw [if_pos e2] at ih
        rw [if_pos (by omega)]
        exact dvd_of (Int.dvd_add ih d) (by simp only [Int.sub_zero]; omega)
      · rw [if_neg e2] at ih
        rw [if_neg (by omega)]
        exact dvd_of (Int.dvd_add ih d) (by simp only [Int.sub_zero])

section
variable {p : Int} {n : Nat} {z : List (List Int)} {v : List Int}
theorem bes_fn1 {r j : Nat} (hr : r < z.length) (hl : (nthL z r).length = n) (hj : j < n) : fn (besA z [v] z.length) r j = nth (nthL z r) j := by
  unfold fn
  rw [besA_at _ _ hr, besR, nth_app1 (by rw [hl]; exact hj)]
theorem bes_fn2 {r : Nat} (hr : r < z.length) (hl : (nthL z r).length = n) : fn (besA z [v] z.length) r n = nth v r := by
  unfold fn
  rw [besA_at _ _ hr, besR, nth_app2 (by rw [hl]; exact Nat.le_refl _), hl, Nat.sub_self, colsAt_at _ _ _ (by simp)]
  rfl
/-- THE SOLUTION HAS THE GIVEN PRODUCTS. -/
theorem sol_sat (hg : GoodM p n z) (hn : n ≤ 999) (hl : v.length = z.length) (hv : Elems p v) (hs : SolOk p n z v) : ∀ r, r < z.length → p ∣ dotTo (nth (nthL z r)) (nth (solZ p n z v)) n - nth v r := by
  have hG := bes1_good hg (by omega) hl hv
  have hst := red_ok hG
  have R := hst.red
  have hlen : (besA z [v] z.length).length = z.length := besA_len _ _ _
  rw [hlen] at R
  obtain ⟨f, hf⟩ : ∃ f, (redOf p (n + 1) (besA z [v] z.length)).1 = f := ⟨_, rfl⟩
  rw [hf] at R
  have hSF : solF p n z v = echF p (n + 1) (besA z [v] z.length) := rfl
  unfold SolOk at hs
  rw [hSF] at hs
  have hSG : ∀ i, i < (echF p (n + 1) (besA z [v] z.length)).length → solG p n z v i = f i n := fun i hi => by
    unfold solG echZ
    rw [tab_at _ _ _ hi (Nat.lt_succ_self n), hf]
  have hZ : ∀ j, j < n → nth (solZ p n z v) j = solAt (fun _ => 0) (echF p (n + 1) (besA z [v] z.length)) (solG p n z v) (echF p (n + 1) (besA z [v] z.length)).length j := fun j hj => by
    unfold solZ
    rw [rowOf_at _ _ hj]
    rfl
  generalize echF p (n + 1) (besA z [v] z.length) = F at *
  have hFn : ∀ a, a < F.length → nthN F a < n := fun a ha => by have := R.lt a ha; have := hs a ha; omega
  -- the functional: the product with the solution, less the value
  have hphi : ∀ i, i < z.length → p ∣ dotTo (f i) (solAt (fun _ => 0) F (solG p n z v) F.length) n - f i n := fun i hi => by
    by_cases e : i < F.length
    · have h := sol_dot (u := f i) (g := solG p n z v) (i := i) R.rise hFn (fun _ => R.one i e) (fun a ha hne => R.off a ha i hi (fun q => hne q.symm)) F.length (Nat.le_refl _)
      rw [if_pos e, hSG i e] at h
      exact h
    · have h1 := R.zero i (by omega) hi n (Nat.lt_succ_self n)
      have h2 := dot_dvd (b := solAt (fun _ => 0) F (solG p n z v) F.length) n (fun j hj => R.zero i (by omega) hi j (by omega))
      exact Int.dvd_sub h2 h1
  have hW : ∀ u : Nat → Int, dotTo u (fun j => if j = n then -1 else solAt (fun _ => 0) F (solG p n z v) F.length j) (n + 1) = dotTo u (solAt (fun _ => 0) F (solG p n z v) F.length) n - u n := fun u => by
    simp only [dotTo, ↓reduceIte]
    rw [dot_congr (a' := u) (b' := solAt (fun _ => 0) F (solG p n z v) F.length) n (fun j hj => ⟨rfl, by rw [if_neg (by omega)]⟩)]
    omega
  intro r hr
  have hrl := (hg.rows r hr).1
  have h := Sp.dot (b := fun j => if j = n then -1 else solAt (fun _ => 0) F (solG p n z v) F.length j) (fun i _ hi => by rw [hW]; exact hphi i hi) (R.into r hr)
  rw [hW, bes_fn2 hr hrl] at h
  rw [dot_congr (a' := fn (besA z [v] z.length) r) (b' := solAt (fun _ => 0) F (solG p n z v) F.length) n (fun j hj => ⟨(bes_fn1 hr hrl hj).symm, hZ j hj⟩)]
  exact h
/-- WHERE THERE ARE ELEMENTS WITH THE GIVEN PRODUCTS, THE REDUCTION FINDS SOME. -/
theorem sol_find (hg : GoodM p n z) (hn : n ≤ 999) (hl : v.length = z.length) (hv : Elems p v) (x : Nat → Int) (hx : ∀ r, r < z.length → p ∣ dotTo (nth (nthL z r)) x n - nth v r) : SolOk p n z v := by
  have hG := bes1_good hg (by omega) hl hv
  have R := (red_ok hG).red
  have hlen : (besA z [v] z.length).length = z.length := besA_len _ _ _
  rw [hlen] at R
  have hp := hg.prm.1
  unfold SolOk
  show ∀ k, k < (echF p (n + 1) (besA z [v] z.length)).length → nthN (echF p (n + 1) (besA z [v] z.length)) k ≠ n
  generalize echF p (n + 1) (besA z [v] z.length) = F at *
  generalize (redOf p (n + 1) (besA z [v] z.length)).1 = f at *
  intro k hk e
  have hkm : k < z.length := by have := R.len; omega
  have hW : ∀ u : Nat → Int, dotTo u (fun j => if j = n then -1 else x j) (n + 1) = dotTo u x n - u n := fun u => by
    simp only [dotTo, ↓reduceIte]
    rw [dot_congr (a' := u) (b' := x) n (fun j hj => ⟨rfl, by rw [if_neg (by omega)]⟩)]
    omega
  have h := Sp.dot (b := fun j => if j = n then -1 else x j) (fun i _ hi => by
    have hrl := (hg.rows i hi).1
    rw [hW, bes_fn2 hi hrl, dot_congr (a' := nth (nthL z i)) (b' := x) n (fun j hj => ⟨bes_fn1 hi hrl hj, rfl⟩)]
    exact hx i hi) (R.back k hkm)
  rw [hW] at h
  have h1 := R.one k hk
  rw [e] at h1
  have h2 := dot_dvd (b := x) n (fun j hj => R.low k hk j (by rw [e]; exact hj))
  have h3 : p ∣ 1 := dvd_of (Int.dvd_sub (Int.dvd_sub h2 h) h1) (by omega)
  have := Int.le_of_dvd (by omega) h3
  omega
end
theorem solZ_elems {p : Int} {n : Nat} {z : List (List Int)} {v : List Int} (hg : GoodM p n z) (hn : n ≤ 999) (hl : v.length = z.length) (hv : Elems p v) : Elems p (solZ p n z v) := fun i hi => by
  have hG := bes1_good hg (by omega) hl hv
  have hst := red_ok hG
  have hp := hg.prm.1
  rw [solZ_len] at hi
  unfold solZ
  rw [rowOf_at _ _ hi]
  refine sol_elem i (h0 := ⟨Int.le_refl _, by show (0 : Int) < p; omega⟩) _ fun k hk => ?_
  unfold solG echZ
  have hk' : k < (echF p (n + 1) (besA z [v] z.length)).length := hk
  rw [tab_at _ _ _ hk' (show n < n + 1 by omega)]
  exact hst.elems hG.elem k (by have := hst.len; omega) n (show n < n + 1 by omega)
/-- Sums exchanged. -/
theorem dot_swap (e d : Nat → Int) (g : Nat → Nat → Int) (n : Nat) : ∀ m, dotTo e (fun r => dotTo (g r) d n) m = dotTo (fun j => dotTo (fun r => g r j) e m) d n
  | 0 => by
    show (0 : Int) = dotTo (fun j => 0) d n
    rw [dot_zero]
  | m + 1 => by
    show dotTo e (fun r => dotTo (g r) d n) m + e m * dotTo (g m) d n = dotTo (fun j => dotTo (fun r => g r j) e m + g m j * e m) d n
    rw [dot_swap e d g n m, dot_add (fun j => dotTo (fun r => g r j) e m) (fun j => g m j * e m) d n, ← dot_smul (e m) (g m) d n]
    congr 1
    exact dot_congr n fun j _ => ⟨Int.mul_comm _ _, rfl⟩
end Go.Proofs.Ytekhjoenejgmaaa

/- The kernel: its rows are made 0 by all rows, there are as many as there are columns without a first element, and they are independent. -/
import Derived.Test.YtekhjoenejgmaaaRd6
import Derived.Test.YtekhjoenejgmaaaKe0
namespace Go.Proofs.Ytekhjoenejgmaaa
open Go.RowKit Go.Deep
set_option linter.unusedVariables false

theorem dot_comm3 (a b : Nat → Int) : ∀ k, dotTo a b k = dotTo b a k
  | 0 => rfl
  | k + 1 => by simp only [dotTo]; rw [dot_comm3 a b k, Int.mul_comm]
theorem sol_keep {h0 : Nat → Int} {F : List Nat} {g : Nat → Int} {j : Nat} : ∀ K, (∀ a, a < K → nthN F a ≠ j) → solAt h0 F g K j = h0 j
  | 0, _ => rfl
  | K + 1, h => by
    rw [sol_next, if_neg (fun e => h K (Nat.lt_succ_self K) e.symm)]
    exact sol_keep K fun a ha => h a (by omega)
theorem sol_dot2 {p : Int} {n i : Nat} {u h0 : Nat → Int} {F : List Nat} {g : Nat → Int} (hr : ∀ a b, a < b → b < F.length → nthN F a < nthN F b) (hn : ∀ a, a < F.length → nthN F a < n) (hz : ∀ a, a < F.length → h0 (nthN F a) = 0) (h1 : i < F.length → p ∣ u (nthN F i) - 1) (h2 : ∀ a, a < F.length → a ≠ i → p ∣ u (nthN F a)) :
    ∀ K, K ≤ F.length → p ∣ dotTo u (solAt h0 F g K) n - (dotTo u h0 n + if i < K then g i else 0)
  | 0, _ => by
    rw [if_neg (Nat.not_lt_zero _)]
    refine dvd_of (Int.dvd_zero p) ?_
    show dotTo u h0 n - (dotTo u h0 n + 0) = 0
    omega
  | K + 1, hK => by
    have ih := sol_dot2 (g := g) hr hn hz h1 h2 K (by omega)
    have hF : solAt h0 F g (K + 1) = fun j => if j = nthN F K then g K else solAt h0 F g K j := by funext j; rfl
    have hz2 : solAt h0 F g K (nthN F K) = 0 := by
      rw [sol_keep K fun a ha => by have := hr a K ha (by omega); omega]
      exact hz K (by omega)
    rw [hF, dot_upd, if_pos (hn K (by omega)), hz2]
    generalize dotTo u h0 n = D at *
    by_cases e : K = i
    · subst e
      rw [if_neg (Nat.lt_irrefl K)] at ih
      rw [if_pos (Nat.lt_succ_self K)]
      have d := Int.dvd_mul_of_dvd_left (c := g K) (h1 (by omega))
      exact dvd_of (Int.dvd_add ih d) (by simp only [Int.sub_zero, Int.sub_mul, Int.one_mul]; omega)
    · have d := Int.dvd_mul_of_dvd_left (c := g K) (h2 K (by omega) e)
      by_cases e2 : i < K
      · rw [if_pos e2] at ih
        rw [if_pos (by omega)]
        exact dvd_of (Int.dvd_add ih d) (by simp only [Int.sub_zero]; omega)
      · rw [if_neg e2] at ih
        rw [if_neg (by omega)]
        exact dvd_of (Int.dvd_add ih d) (by simp only [Int.sub_zero]; omega)

section
variable {p : Int} {n : Nat} {z : List (List Int)}
theorem mem_nthN {F : List Nat} {c : Nat} (h : c ∈ F) : ∃ a, a < F.length ∧ nthN F a = c := by
  obtain ⟨i, hi, rfl⟩ := List.getElem_of_mem h
  exact ⟨i, hi, nthN_lt hi⟩
/-- ALL ROWS MAKE A ROW OF THE KERNEL 0. -/
theorem ker_zero (hg : GoodM p n z) {c : Nat} (hc : c < n) (hcF : c ∉ echF p n z) : ∀ r, r < z.length → p ∣ dotTo (nth (nthL z r)) (nth (kerRow p n z c)) n := by
  have R := (red_ok hg).red
  have hK : ∀ j, j < n → nth (kerRow p n z c) j = solAt (oneAt c) (echF p n z) (kerG p n z c) (echF p n z).length j := fun j hj => by
    unfold kerRow; rw [rowOf_at _ _ hj]
  have hG : ∀ i, i < (echF p n z).length → kerG p n z c i = (p - (redOf p n z).1 i c) % p := fun i hi => by
    unfold kerG echZ; rw [tab_at _ _ _ hi hc]
  generalize echF p n z = F at *
  generalize (redOf p n z).1 = f at *
  have hone : ∀ u : Nat → Int, dotTo u (oneAt c) n = u c := fun u => by
    have h := dot_upd u (fun _ => 0) c 1 n
    rw [dot_zero2, if_pos hc] at h
    rw [show oneAt c = fun j => if j = c then 1 else (0 : Int) from rfl, h]
    simp
  have hphi : ∀ i, i < z.length → p ∣ dotTo (f i) (solAt (oneAt c) F (kerG p n z c) F.length) n := fun i hi => by
    by_cases e : i < F.length
    · have h := sol_dot2 (u := f i) (h0 := oneAt c) (g := kerG p n z c) (i := i) R.rise R.lt (fun a ha => by
        unfold oneAt
        rw [if_neg]
        intro q
        exact hcF (by rw [← q]; exact nthN_mem ha)) (fun _ => R.one i e) (fun a ha hne => R.off a ha i hi (fun q => hne q.symm)) F.length (Nat.le_refl _)
      rw [if_pos e, hone, hG i e] at h
      have h2 := emod_dvd (p - f i c) p
      exact dvd_of (Int.dvd_add (Int.dvd_add h h2) (Int.dvd_refl p)) (by omega)
    · exact dot_dvd n fun j hj => R.zero i (by omega) hi j hj
  intro r hr
  have h := Sp.dot (b := solAt (oneAt c) F (kerG p n z c) F.length) (fun i _ hi => hphi i hi) (R.into r hr)
  rw [dot_congr (a := nth (nthL z r)) (b := nth (kerRow p n z c)) (a' := fn z r) (b' := solAt (oneAt c) F (kerG p n z c) F.length) n (fun j hj => ⟨rfl, hK j hj⟩)]
  exact h
theorem kerRow_at {c j : Nat} (hj : j < n) (hjF : j ∉ echF p n z) : nth (kerRow p n z c) j = if j = c then 1 else 0 := by
  unfold kerRow
  rw [rowOf_at _ _ hj, sol_keep _ fun a ha q => hjF (by rw [← q]; exact nthN_mem ha)]
  rfl
theorem kerRow_elems (hp : 2 ≤ p) (c : Nat) : Elems p (kerRow p n z c) := fun i hi => by
  rw [kerRow_len] at hi
  unfold kerRow
  rw [rowOf_at _ _ hi]
  refine sol_elem i (h0 := ?_) _ fun k hk => mod_elem hp _
  unfold oneAt
  split
  · exact ⟨by omega, by omega⟩
  · exact ⟨by omega, by omega⟩
/-- The columns without a first element, of the first k ones. -/
noncomputable def freeTo (p : Int) (n : Nat) (z : List (List Int)) : Nat → List Nat
  | 0 => []
  | k + 1 => open Classical in if k ∈ echF p n z then freeTo p n z k else freeTo p n z k ++ [k]
theorem freeTo_mem : ∀ k c, c ∈ freeTo p n z k ↔ c < k ∧ c ∉ echF p n z
  | 0, c => by simp [freeTo]
  | k + 1, c => by
    have ih := freeTo_mem k c
    by_cases h : k ∈ echF p n z
    · rw [freeTo, if_pos h, ih]
      constructor
      · rintro ⟨a, b⟩; exact ⟨by omega, b⟩
      · rintro ⟨a, b⟩
        refine ⟨?_, b⟩
        by_cases e : c = k
        · subst e; exact absurd h b
        · omega
    · rw [freeTo, if_neg h, List.mem_append, ih, List.mem_singleton]
      constructor
      · rintro (⟨a, b⟩ | rfl)
        · exact ⟨by omega, b⟩
        · exact ⟨by omega, h⟩
      · rintro ⟨a, b⟩
        by_cases e : c = k
        · exact .inr e
        · exact .inl ⟨by omega, b⟩
theorem kerTo_free : ∀ k, kerTo p n z k = (freeTo p n z k).map (kerRow p n z)
  | 0 => rfl
  | k + 1 => by
    by_cases h : k ∈ echF p n z
    · rw [ker_skip h, freeTo, if_pos h, kerTo_free k]
    · rw [ker_next h, freeTo, if_neg h, kerTo_free k, List.map_append]; rfl
theorem freeTo_nodup : ∀ k, (freeTo p n z k).Nodup
  | 0 => by simp [freeTo]
  | k + 1 => by
    by_cases h : k ∈ echF p n z
    · rw [freeTo, if_pos h]; exact freeTo_nodup k
    · rw [freeTo, if_neg h]
      refine List.nodup_append.2 ⟨freeTo_nodup k, by simp, fun a ha b hb => ?_⟩
      have := (freeTo_mem k a).1 ha
      simp at hb
      omega
theorem kerZ_len : (kerZ p n z).length = (freeTo p n z n).length := by unfold kerZ; rw [kerTo_free, List.length_map]
theorem kerZ_at {x : Nat} (hx : x < (freeTo p n z n).length) : nthL (kerZ p n z) x = kerRow p n z (freeTo p n z n)[x] := by
  have hk : kerZ p n z = (freeTo p n z n).map (kerRow p n z) := kerTo_free n
  rw [hk, nthL_lt (by rw [List.length_map]; exact hx), List.getElem_map]
theorem kerZ_row {x : Nat} (hx : x < (kerZ p n z).length) : ∃ c, c < n ∧ c ∉ echF p n z ∧ nthL (kerZ p n z) x = kerRow p n z c := by
  have hx' : x < (freeTo p n z n).length := by rw [kerZ_len] at hx; exact hx
  have hm := (freeTo_mem n _).1 (List.getElem_mem hx')
  exact ⟨_, hm.1, hm.2, kerZ_at hx'⟩
theorem kerZ_mat {c : Int} (h : MatOk p c z) : MatOk p c (kerZ p c.toNat z) := by
  refine ⟨h.1, h.2.1, ?_, fun r hr => ?_⟩
  · have := kerTo_len (p := p) (n := c.toNat) (z := z) c.toNat
    have := h.2.1.2
    unfold kerZ
    omega
  · obtain ⟨q, h1, h2, h3⟩ := kerZ_row hr
    rw [h3]
    exact ⟨by rw [kerRow_len]; have := h.2.1.1; omega, kerRow_elems h.1.1 q⟩
end

theorem steps_nodup {p : Int} {n m : Nat} {f0 f : Nat → Nat → Int} {k : Nat} {F : List Nat} (h : Steps p n m f0 k f F) : F.Nodup := by
  induction h with
  | start => simp
  | skip k f F h1 h2 h3 ih => exact ih
  | piv k f f' F h1 h2 h3 h4 h5 ih =>
    refine List.nodup_append.2 ⟨ih, by simp, fun a ha b hb => ?_⟩
    have := h1.lenk.2 a ha
    simp at hb
    omega
/-- A list of numbers below n and what is not in it are n numbers together. -/
theorem count_free : ∀ (n : Nat) (F G : List Nat), F.Nodup → G.Nodup → (∀ x, x ∈ F → x < n) → (∀ x, x ∈ G ↔ x < n ∧ x ∉ F) → F.length + G.length = n
  | 0, F, G, _, _, h1, h2 => by
    have hF : F = [] := List.eq_nil_iff_forall_not_mem.2 fun x hx => absurd (h1 x hx) (Nat.not_lt_zero _)
    have hG : G = [] := List.eq_nil_iff_forall_not_mem.2 fun x hx => absurd ((h2 x).1 hx).1 (Nat.not_lt_zero _)
    rw [hF, hG]; rfl
  | n + 1, F, G, hF, hG, h1, h2 => by
    by_cases h : n ∈ F
    · have ih := count_free n (F.erase n) G (hF.erase n) hG (fun x hx => by
        have h3 := h1 x (List.mem_of_mem_erase hx)
        have h4 : x ≠ n := fun e => by subst e; exact hF.not_mem_erase hx
        omega) (fun x => by
        rw [h2 x]
        constructor
        · rintro ⟨a, b⟩
          have : x ≠ n := fun e => b (e ▸ h)
          exact ⟨by omega, fun q => b (List.mem_of_mem_erase q)⟩
        · rintro ⟨a, b⟩
          exact ⟨by omega, fun q => b ((List.mem_erase_of_ne (by omega)).2 q)⟩)
      have := List.length_erase_of_mem h
      have := List.length_pos_of_mem h
      omega
    · have hn : n ∈ G := (h2 n).2 ⟨by omega, h⟩
      have ih := count_free n F (G.erase n) hF (hG.erase n) (fun x hx => by
        have h3 := h1 x hx
        have h4 : x ≠ n := fun e => by subst e; exact h hx
        omega) (fun x => by
        constructor
        · intro q
          have h3 := (h2 x).1 (List.mem_of_mem_erase q)
          have h4 : x ≠ n := fun e => by subst e; exact hG.not_mem_erase q
          exact ⟨by omega, h3.2⟩
        · rintro ⟨a, b⟩
          exact (List.mem_erase_of_ne (by omega)).2 ((h2 x).2 ⟨by omega, b⟩))
      have := List.length_erase_of_mem hn
      have := List.length_pos_of_mem hn
      omega
section
variable {p : Int} {n : Nat} {z : List (List Int)}
/-- THE RANK AND THE ROWS OF THE KERNEL ARE AS MANY AS THE COLUMNS. -/
theorem rank_ker (hg : GoodM p n z) : (echF p n z).length + (kerZ p n z).length = n := by
  rw [kerZ_len]
  exact count_free n _ _ (steps_nodup (red_ok hg)) (freeTo_nodup n) echF_lt (freeTo_mem n)
/-- A matrix with fewer rows than columns makes something 0 that is not 0. -/
theorem wide_ker (hg : GoodM p n z) (h : (echF p n z).length < n) : ∃ (y : Nat → Int) (c : Nat), c < n ∧ y c = 1 ∧ ∀ r, r < z.length → p ∣ dotTo (nth (nthL z r)) y n := by
  have hk := rank_ker hg
  obtain ⟨c, h1, h2, -⟩ := kerZ_row (p := p) (n := n) (z := z) (x := 0) (by omega)
  exact ⟨nth (kerRow p n z c), c, h1, by rw [kerRow_at h1 h2, if_pos rfl], ker_zero hg h1 h2⟩
/-- THE ROWS OF THE KERNEL ARE INDEPENDENT. -/
theorem ker_rank (hg : GoodM p n z) : (echF p n (kerZ p n z)).length = (kerZ p n z).length := by
  have hp := hg.prm.1
  have hgk : GoodM p n (kerZ p n z) := ⟨hg.prm, hg.hn, by have := kerTo_len (p := p) (n := n) (z := z) n; have := hg.hn; unfold kerZ; omega, fun r hr => by
    obtain ⟨q, h1, h2, h3⟩ := kerZ_row hr
    rw [h3]
    exact ⟨kerRow_len q, kerRow_elems hp q⟩⟩
  have R := (red_ok hgk).red
  generalize hF : echF p n (kerZ p n z) = F at *
  generalize (redOf p n (kerZ p n z)).1 = f at *
  apply Classical.byContradiction
  intro hne
  have hlt : F.length < (kerZ p n z).length := by have := R.len; omega
  -- the values of the kernel's rows at the first columns: as rows, with as many columns as the kernel has rows
  have hgA : GoodM p (kerZ p n z).length (tab F.length (kerZ p n z).length (fun a r => nth (nthL (kerZ p n z) r) (nthN F a))) :=
    ⟨hg.prm, hgk.hm, by rw [tab_len]; have := hgk.hm; omega, fun a ha => by
      rw [tab_len] at ha
      refine ⟨tab_rlen _ _ _ ha, fun r hr => ?_⟩
      rw [tab_rlen _ _ _ ha] at hr
      rw [tab_at _ _ _ ha hr]
      exact (hgk.rows r hr).2 _ (by rw [(hgk.rows r hr).1]; exact R.lt a ha)⟩
  obtain ⟨y, c, hc, hy, hz⟩ := wide_ker hgA (by
    have := (red_ok hgA).len
    rw [tab_len] at this
    omega)
  rw [tab_len] at hz
  -- each row of the kernel is made of the rows of its echelon, with its values at the first columns
  have hcomb : ∀ r, r < (kerZ p n z).length → ∀ j, j < n → p ∣ nth (nthL (kerZ p n z) r) j - dotTo (fun a => nth (nthL (kerZ p n z) r) (nthN F a)) (fun a => f a j) F.length := fun r hr j hj => by
    have hs := R.into r hr
    have hgen : ∀ v : Nat → Int, Sp p n (kerZ p n z).length f 0 v → p ∣ v j - dotTo (fun a => v (nthN F a)) (fun a => f a j) F.length := by
      intro v hv
      induction hv with
      | zero v h =>
        exact Int.dvd_sub (h j hj) (dot_dvd _ fun a ha => h _ (R.lt a ha))
      | add v u i c' h1 h2 h3 h4 ih =>
        have e1 := h4 j hj
        have e2 : p ∣ dotTo (fun a => v (nthN F a)) (fun a => f a j) F.length - dotTo (fun a => u (nthN F a) + c' * f i (nthN F a)) (fun a => f a j) F.length := dot_mod _ fun a ha => h4 _ (R.lt a ha)
        rw [dot_add (fun a => u (nthN F a)) (fun a => c' * f i (nthN F a)), dot_smul] at e2
        have e3 : p ∣ dotTo (fun a => f i (nthN F a)) (fun a => f a j) F.length - f i j := by
          by_cases e : i < F.length
          · have h5 : p ∣ dotTo (fun a => f i (nthN F a)) (fun a => f a j) F.length - dotTo (fun a => if a = i then 1 else (0 : Int)) (fun a => f a j) F.length := dot_mod _ fun a ha => by
              by_cases ea : a = i
              · subst ea
                rw [if_pos rfl]
                exact R.one a ha
              · rw [if_neg ea, Int.sub_zero]
                exact R.off a ha i h2 (fun q => ea q.symm)
            rw [dot_comm3 (fun a => if a = i then 1 else (0 : Int)), dot_upd (fun a => f a j) (fun _ => 0) i 1, dot_zero2, if_pos e] at h5
            exact dvd_of h5 (by simp only [Int.sub_zero, Int.mul_one]; omega)
          · have h6 : p ∣ dotTo (fun a => f i (nthN F a)) (fun a => f a j) F.length := dot_dvd _ fun a ha => R.zero i (by omega) h2 _ (R.lt a ha)
            exact Int.dvd_sub h6 (R.zero i (by omega) h2 j hj)
        have e4 := Int.dvd_mul_of_dvd_right (b := c') e3
        rw [Int.mul_sub] at e4
        exact dvd_of (Int.dvd_sub (Int.dvd_add e1 ih) (Int.dvd_add e2 e4)) (by omega)
    exact hgen _ hs
  -- so the combination of the kernel's rows is 0
  have hsum : ∀ j, j < n → p ∣ dotTo y (fun r => nth (nthL (kerZ p n z) r) j) (kerZ p n z).length := fun j hj => by
    have h1 : p ∣ dotTo (fun r => nth (nthL (kerZ p n z) r) j) y (kerZ p n z).length - dotTo (fun r => dotTo (fun a => nth (nthL (kerZ p n z) r) (nthN F a)) (fun a => f a j) F.length) y (kerZ p n z).length := dot_mod _ fun r hr => hcomb r hr j hj
    rw [dot_comm3 (fun r => dotTo (fun a => nth (nthL (kerZ p n z) r) (nthN F a)) (fun a => f a j) F.length), dot_swap y (fun a => f a j) (fun r a => nth (nthL (kerZ p n z) r) (nthN F a)) F.length (kerZ p n z).length] at h1
    have h2 : p ∣ dotTo (fun a => dotTo (fun r => nth (nthL (kerZ p n z) r) (nthN F a)) y (kerZ p n z).length) (fun a => f a j) F.length := dot_dvd _ fun a ha => by
      have h := hz a ha
      rw [dot_congr (a' := fun r => nth (nthL (kerZ p n z) r) (nthN F a)) (b' := y) _ (fun r hr => ⟨by rw [tab_at _ _ _ ha hr], rfl⟩)] at h
      exact h
    rw [dot_comm3 y]
    exact dvd_of (Int.dvd_add h1 h2) (by omega)
  -- but at the column of row c it is 1
  have hfl : (kerZ p n z).length = (freeTo p n z n).length := kerZ_len
  have hcf : c < (freeTo p n z n).length := by rw [← hfl]; exact hc
  have hm := (freeTo_mem n _).1 (List.getElem_mem hcf)
  have hrow : ∀ r (hr : r < (kerZ p n z).length), nth (nthL (kerZ p n z) r) (freeTo p n z n)[c] = if r = c then 1 else 0 := fun r hr => by
    have hrf : r < (freeTo p n z n).length := by rw [← hfl]; exact hr
    rw [kerZ_at hrf, kerRow_at hm.1 hm.2]
    by_cases e : r = c
    · subst e; rw [if_pos rfl, if_pos rfl]
    · rw [if_neg e, if_neg]
      intro q
      have hpw := List.pairwise_iff_getElem.1 (freeTo_nodup (p := p) (n := n) (z := z) n)
      rcases Nat.lt_or_gt_of_ne e with h | h
      · exact hpw r c hrf hcf h q.symm
      · exact hpw c r hcf hrf h q
  have h9 := hsum _ hm.1
  rw [dot_congr (a' := y) (b' := fun r => if r = c then 1 else (0 : Int)) _ (fun r hr => ⟨rfl, hrow r hr⟩), dot_upd y (fun _ => 0) c 1, dot_zero2, if_pos hc, hy] at h9
  have h10 : p ∣ 1 := dvd_of h9 (by omega)
  have := Int.le_of_dvd (by omega) h10
  omega
end
end Go.Proofs.Ytekhjoenejgmaaa

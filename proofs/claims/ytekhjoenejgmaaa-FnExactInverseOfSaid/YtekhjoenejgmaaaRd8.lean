/- Inverses: what the rows' own solutions and the reduction with unit columns have in common. -/
import Derived.Test.YtekhjoenejgmaaaRd7
import Derived.Test.YtekhjoenejgmaaaSf
namespace Go.Proofs.Ytekhjoenejgmaaa
open Go.RowKit Go.Deep Go.Joins
set_option linter.unusedVariables false

def one1 (i j : Nat) : Int := if j = i then 1 else 0
def unitL (n i : Nat) : List Int := rowOf n (one1 i)
def unitZ (n : Nat) : List (List Int) := (List.range n).map (unitL n)
theorem unitL_len (n i : Nat) : (unitL n i).length = n := rowOf_len _ _
theorem unitL_at {n i j : Nat} (h : j < n) : nth (unitL n i) j = one1 i j := rowOf_at _ _ h
theorem unitZ_len (n : Nat) : (unitZ n).length = n := by simp [unitZ]
theorem unitZ_at {n i : Nat} (h : i < n) : nthL (unitZ n) i = unitL n i := by rw [nthL_lt (by rw [unitZ_len]; exact h)]; simp [unitZ]
theorem unitL_elems {p : Int} (hp : 2 ≤ p) (n i : Nat) : Elems p (unitL n i) := fun j hj => by
  rw [unitL_len] at hj
  rw [unitL_at hj]
  unfold one1
  split
  · exact ⟨by omega, by omega⟩
  · exact ⟨by omega, by omega⟩
theorem dot_one {n i : Nat} (hi : i < n) (g : Nat → Int) : dotTo (one1 i) g n = g i := by
  rw [dot_comm3]
  have h := dot_upd g (fun _ => 0) i 1 n
  rw [dot_zero2, if_pos hi] at h
  have e : dotTo g (one1 i) n = dotTo g (fun j => if j = i then 1 else 0) n := rfl
  rw [e, h]; simp
theorem dot_dvd2 {p : Int} {a g : Nat → Int} : ∀ n, (∀ b, b < n → p ∣ a b ∨ p ∣ g b) → p ∣ dotTo a g n
  | 0, _ => Int.dvd_zero _
  | n + 1, h => by
    show p ∣ dotTo a g n + a n * g n
    refine Int.dvd_add (dot_dvd2 n fun b hb => h b (by omega)) ?_
    rcases h n (Nat.lt_succ_self n) with k | k
    · exact Int.dvd_mul_of_dvd_left k
    · exact Int.dvd_mul_of_dvd_right k
section
variable {p : Int} {n m : Nat} {f : Nat → Nat → Int} {v : Nat → Int}
theorem sp_coef (h : Sp p n m f 0 v) : ∃ c : Nat → Int, ∀ j, j < n → p ∣ v j - dotTo c (fun r => f r j) m := by
  induction h with
  | zero v h => exact ⟨fun _ => 0, fun j hj => by rw [dot_zero]; simpa using h j hj⟩
  | add v u i c h1 h2 h3 h4 ih =>
    obtain ⟨d, hd⟩ := ih
    refine ⟨fun r => d r + c * one1 i r, fun j hj => ?_⟩
    rw [dot_add, dot_smul, dot_one h2]
    exact dvd_of (Int.dvd_add (h4 j hj) (hd j hj)) (by omega)
theorem sp_sum (c : Nat → Int) : ∀ k, k ≤ m → Sp p n m f 0 (fun j => dotTo c (fun r => f r j) k)
  | 0, _ => .zero _ fun j _ => Int.dvd_zero _
  | k + 1, hk => .add _ _ k (c k) (Nat.zero_le _) (by omega) (sp_sum c k (by omega)) fun j hj => dvd_of (Int.dvd_zero _) (by simp [dotTo])
theorem sp_of (c : Nat → Int) (h : ∀ j, j < n → p ∣ v j - dotTo c (fun r => f r j) m) : Sp p n m f 0 v := (sp_sum c m (Nat.le_refl _)).congr h
end
section
variable {p : Int} {n : Nat} {z : List (List Int)}
def InvM (p : Int) (n : Nat) (z : List (List Int)) : Prop := ∀ i, i < n → SolOk p n (turned z n) (unitL n i)
noncomputable def invZ (p : Int) (n : Nat) (z : List (List Int)) : List (List Int) := (List.range n).map fun i => solZ p n (turned z n) (unitL n i)
theorem mod_of_dvd9 {p d v : Int} (h : p ∣ d - v) (h0 : 0 ≤ v) (h1 : v < p) : d % p = v := by
  obtain ⟨k, hk⟩ := h
  rw [show d = v + p * k by omega, Int.add_mul_emod_self_left, Int.emod_eq_of_lt h0 h1]
theorem not_dvd_one {p : Int} (hp : 2 ≤ p) (h : p ∣ 1) : False := by
  obtain ⟨k, hk⟩ := h
  rcases Int.le_total k 0 with h1 | h1
  · have := Int.mul_le_mul_of_nonneg_left h1 (show 0 ≤ p by omega)
    omega
  · by_cases e : k = 0
    · subst e; simp at hk
    · have := Int.mul_le_mul_of_nonneg_left (show 1 ≤ k by omega) (show 0 ≤ p by omega)
      omega
theorem tur_good (hg : GoodM p n z) (hz : z.length = n) : GoodM p n (turned z n) ∧ (turned z n).length = n := by
  have h := turned_good hg hg.hm
  rw [hz] at h
  exact ⟨h, by unfold turned; rw [tab_len]⟩
theorem tur_dot (hz : z.length = n) (x : Nat → Int) {j : Nat} (hj : j < n) : dotTo (nth (nthL (turned z n) j)) x n = dotTo x (fun r => fn z r j) n := by
  rw [dot_comm3]
  refine dot_congr _ fun r hr => ⟨rfl, ?_⟩
  unfold turned
  rw [tab_at _ _ _ hj (by omega)]
  rfl
/-- The program's rows times the matrix. -/
theorem inv_sat (hg : GoodM p n z) (hz : z.length = n) (hn : n ≤ 999) {i : Nat} (hs : SolOk p n (turned z n) (unitL n i)) {j : Nat} (hj : j < n) : p ∣ dotTo (nth (solZ p n (turned z n) (unitL n i))) (fun r => fn z r j) n - one1 i j := by
  obtain ⟨h1, h2⟩ := tur_good hg hz
  have h := sol_sat h1 hn (by rw [unitL_len, h2]) (unitL_elems hg.prm.1 n i) hs j (by rw [h2]; exact hj)
  rw [tur_dot hz _ hj, unitL_at hj] at h
  exact h
theorem inv_full (hg : GoodM p n z) (hz : z.length = n) (hn : n ≤ 999) (hI : InvM p n z) : (echF p n z).length = n := by
  have hl := (red_ok hg).len
  refine Classical.byContradiction fun hne => ?_
  obtain ⟨y, c, hc, hy1, hy⟩ := wide_ker hg (by omega)
  have hs := hI c hc
  have h1 := dot_swap (nth (solZ p n (turned z n) (unitL n c))) y (fn z) n n
  have h2 : p ∣ dotTo (nth (solZ p n (turned z n) (unitL n c))) (fun r => dotTo (fn z r) y n) n := dot_dvd2 n fun b hb => .inr (hy b (by omega))
  have h3 : p ∣ dotTo (fun j => dotTo (fun r => fn z r j) (nth (solZ p n (turned z n) (unitL n c))) n) y n - dotTo (one1 c) y n := dot_mod n fun j hj => by
    rw [dot_comm3]
    exact inv_sat hg hz hn hs hj
  rw [dot_one hc, hy1, ← h1] at h3
  exact not_dvd_one hg.prm.1 (dvd_of (Int.dvd_sub h2 h3) (by omega))
theorem inv_of_full (hg : GoodM p n z) (hz : z.length = n) (hn : n ≤ 999) (hF : (echF p n z).length = n) : InvM p n z := by
  have R := (red_ok hg).red
  rw [hz] at R
  generalize echF p n z = F at *
  generalize (redOf p n z).1 = f at *
  have hup : ∀ d a, a + d < n → nthN F a + d ≤ nthN F (a + d) := by
    intro d
    induction d with
    | zero => intro a ha; exact Nat.le_refl _
    | succ d ih =>
      intro a ha
      have h1 := ih a (by omega)
      have h2 := R.rise (a + d) (a + (d + 1)) (by omega) (by omega)
      omega
  have hpv : ∀ a, a < n → nthN F a = a := fun a ha => by
    have h1 := hup a 0 (by omega)
    have h2 := hup (n - 1 - a) a (by omega)
    have h3 := R.lt (n - 1) (by omega)
    rw [Nat.zero_add] at h1
    rw [show a + (n - 1 - a) = n - 1 by omega] at h2
    omega
  intro a ha
  obtain ⟨c, hc⟩ := sp_coef (R.back a ha)
  obtain ⟨h1, h2⟩ := tur_good hg hz
  refine sol_find h1 hn (by rw [unitL_len, h2]) (unitL_elems hg.prm.1 n a) c fun j hj => ?_
  rw [h2] at hj
  rw [tur_dot hz _ hj, unitL_at hj]
  have h3 : p ∣ f a j - one1 a j := by
    unfold one1
    by_cases e : j = a
    · subst e
      rw [if_pos rfl]
      have := R.one j (by omega)
      rw [hpv j hj] at this
      exact this
    · rw [if_neg e]
      have := R.off j (by omega) a ha (fun q => e q.symm)
      rw [hpv j hj] at this
      simpa using this
  exact dvd_of (Int.dvd_sub h3 (hc j hj)) (by omega)
/-- The model's matrix with unit columns beside it. -/
theorem wide_good (hg : GoodM p n z) (hz : z.length = n) (hn : n ≤ 400) : GoodM p (n + n) (besA z (unitZ n) z.length) := by
  have h := besA_good (cs := unitZ n) hg (by rw [unitZ_len]; omega) (fun q hq => by
    rw [unitZ_len] at hq
    rw [unitZ_at hq]
    exact ⟨by rw [unitL_len, hz], unitL_elems hg.prm.1 n q⟩)
  rw [unitZ_len] at h
  exact h
theorem wide_at1 (hg : GoodM p n z) {r j : Nat} (hr : r < z.length) (hj : j < n) : fn (besA z (unitZ n) z.length) r j = fn z r j := by
  unfold fn
  rw [besA_at _ _ hr]
  unfold besR
  exact nth_app1 (by rw [(hg.rows r hr).1]; exact hj)
theorem wide_at2 (hg : GoodM p n z) (hz : z.length = n) {r q : Nat} (hr : r < z.length) (hq : q < n) : fn (besA z (unitZ n) z.length) r (n + q) = one1 q r := by
  unfold fn
  rw [besA_at _ _ hr]
  unfold besR
  have hl := (hg.rows r hr).1
  rw [nth_app2 (by omega), hl, show n + q - n = q by omega, unitZ_len, colsAt_at _ _ _ hq, unitZ_at hq, unitL_at (by omega)]
theorem inv_wide (hg : GoodM p n z) (hz : z.length = n) (hn : n ≤ 400) (hI : InvM p n z) : (echF p (n + n) (besA z (unitZ n) z.length)).length = n ∧ ∀ i, i < n → (nthL (echZ p (n + n) (besA z (unitZ n) z.length)) i).drop n = solZ p n (turned z n) (unitL n i) := by
  have hG := wide_good hg hz hn
  have hst := red_ok hG
  have R := hst.red
  have hel := hst.elems hG.elem
  have hbl : (besA z (unitZ n) z.length).length = n := by rw [besA_len, hz]
  rw [hbl] at R hel
  have hp := hg.prm.1
  -- the rows that the program finds, beside the unit ones
  have hv : ∀ i, i < n → ∃ d : Nat → Int, ∀ j, j < n + n → p ∣ (if j < n then one1 i j else nth (solZ p n (turned z n) (unitL n i)) (j - n)) - dotTo d (fun r => (redOf p (n + n) (besA z (unitZ n) z.length)).1 r j) n := fun i hi => by
    have h1 : Sp p (n + n) n (fn (besA z (unitZ n) z.length)) 0 (fun j => if j < n then one1 i j else nth (solZ p n (turned z n) (unitL n i)) (j - n)) := by
      refine sp_of (nth (solZ p n (turned z n) (unitL n i))) fun j hj => ?_
      by_cases h : j < n
      · simp only [if_pos h]
        have e : dotTo (nth (solZ p n (turned z n) (unitL n i))) (fun r => fn (besA z (unitZ n) z.length) r j) n = dotTo (nth (solZ p n (turned z n) (unitL n i))) (fun r => fn z r j) n := dot_congr _ fun r hr => ⟨rfl, wide_at1 hg (by omega) h⟩
        rw [e]
        have := inv_sat hg hz (by omega) (hI i hi) h
        exact dvd_of (Int.dvd_neg.2 this) (by omega)
      · simp only [if_neg h]
        obtain ⟨q, rfl⟩ : ∃ q, j = n + q := ⟨j - n, by omega⟩
        have e : dotTo (nth (solZ p n (turned z n) (unitL n i))) (fun r => fn (besA z (unitZ n) z.length) r (n + q)) n = dotTo (nth (solZ p n (turned z n) (unitL n i))) (one1 q) n := dot_congr _ fun r hr => ⟨rfl, wide_at2 hg hz (by omega) (by omega)⟩
        rw [e, dot_comm3, dot_one (by omega), show n + q - n = q by omega]
        exact dvd_of (Int.dvd_zero _) (by omega)
    exact sp_coef (Sp.of_rows (fun r _ hr => R.into r hr) h1)
  have hX : ∀ i, i < n → ∀ q, q < n → Elem p (nth (solZ p n (turned z n) (unitL n i)) q) := fun i hi q hq => by
    obtain ⟨h1, h2⟩ := tur_good hg hz
    exact solZ_elems h1 (by omega) (by rw [unitL_len, h2]) (unitL_elems hp n i) q (by rw [solZ_len]; exact hq)
  generalize hF : echF p (n + n) (besA z (unitZ n) z.length) = F at *
  have hech : echZ p (n + n) (besA z (unitZ n) z.length) = tab F.length (n + n) (redOf p (n + n) (besA z (unitZ n) z.length)).1 := by unfold echZ; rw [hF]
  rw [hech]
  generalize (redOf p (n + n) (besA z (unitZ n) z.length)).1 = f at *
  have hco : ∀ (d : Nat → Int) a, a < F.length → p ∣ dotTo d (fun r => f r (nthN F a)) n - d a := fun d a ha => by
    have hlen := R.len
    have h1 : p ∣ dotTo (fun r => f r (nthN F a)) d n - dotTo (one1 a) d n := dot_mod n fun b hb => by
      unfold one1
      by_cases e : b = a
      · subst e; rw [if_pos rfl]; exact R.one b ha
      · rw [if_neg e]; simpa using R.off a ha b hb e
    rw [dot_one (by omega), dot_comm3] at h1
    exact h1
  have hpiv : ∀ k, k ≤ n → k ≤ F.length ∧ ∀ a, a < k → nthN F a = a := by
    intro k
    induction k with
    | zero => intro _; exact ⟨Nat.zero_le _, fun a ha => absurd ha (Nat.not_lt_zero _)⟩
    | succ k ih =>
      intro hk
      obtain ⟨i1, i2⟩ := ih (by omega)
      have hgo : k < F.length ∧ nthN F k = k := by
        refine Classical.byContradiction fun hno => ?_
        have hge : ∀ a, k ≤ a → a < F.length → k < nthN F a := fun a h1 h2 => by
          have hk0 : k ≤ nthN F k := by
            by_cases e : k = 0
            · omega
            · have := R.rise (k - 1) k (by omega) (by omega)
              rw [i2 (k - 1) (by omega)] at this
              omega
          have hk1 : nthN F k ≠ k := fun e => hno ⟨by omega, e⟩
          rcases Nat.lt_or_ge k a with h3 | h3
          · have := R.rise k a h3 h2; omega
          · have : a = k := by omega
            subst this; omega
        obtain ⟨d, hd⟩ := hv k (by omega)
        have h1 := hd k (by omega)
        rw [if_pos (by omega)] at h1
        have h2 : p ∣ dotTo d (fun r => f r k) n := dot_dvd2 n fun b hb => by
          by_cases hbk : b < k
          · refine .inl ?_
            have h3 := hco d b (by omega)
            have h4 := hd (nthN F b) (by rw [i2 b hbk]; omega)
            rw [i2 b hbk] at h3 h4
            rw [if_pos (by omega)] at h4
            have e : one1 k b = 0 := by unfold one1; rw [if_neg (by omega)]
            rw [e] at h4
            exact dvd_of (Int.dvd_neg.2 (Int.dvd_add h3 h4)) (by omega)
          · refine .inr ?_
            by_cases hbF : b < F.length
            · exact R.low b hbF k (hge b (by omega) hbF)
            · exact R.zero b (by omega) hb k (by omega)
        have e : one1 k k = 1 := by unfold one1; rw [if_pos rfl]
        rw [e] at h1
        exact not_dvd_one hp (dvd_of (Int.dvd_add h1 h2) (by omega))
      refine ⟨hgo.1, fun a ha => ?_⟩
      by_cases e : a = k
      · subst e; exact hgo.2
      · exact i2 a (by omega)
  obtain ⟨p1, p2⟩ := hpiv n (Nat.le_refl _)
  have hlen : F.length = n := Nat.le_antisymm R.len p1
  refine ⟨hlen, fun i hi => ?_⟩
  obtain ⟨d, hd⟩ := hv i hi
  have hdd : ∀ a, a < n → p ∣ d a - one1 i a := fun a ha => by
    have h3 := hco d a (by omega)
    have h4 := hd (nthN F a) (by rw [p2 a ha]; omega)
    rw [p2 a ha] at h3 h4
    rw [if_pos ha] at h4
    exact dvd_of (Int.dvd_neg.2 (Int.dvd_add h3 h4)) (by omega)
  rw [hlen, rowOf_tab _ _ _ hi]
  refine ext_nth (by rw [List.length_drop, rowOf_len, solZ_len]; omega) fun q hq => ?_
  have hq' : q < n := by rw [List.length_drop, rowOf_len] at hq; omega
  have e1 : nth ((rowOf (n + n) (f i)).drop n) q = f i (n + q) := by
    rw [nth_lt hq]
    simp [rowOf]
  rw [e1]
  have h5 := hd (n + q) (by omega)
  rw [if_neg (by omega), show n + q - n = q by omega] at h5
  have h6 : p ∣ dotTo d (fun r => f r (n + q)) n - dotTo (one1 i) (fun r => f r (n + q)) n := dot_mod n hdd
  rw [dot_one hi] at h6
  have h7 : p ∣ nth (solZ p n (turned z n) (unitL n i)) q - f i (n + q) := dvd_of (Int.dvd_add h5 h6) (by omega)
  obtain ⟨x0, x1⟩ := hX i hi q hq'
  obtain ⟨y0, y1⟩ := hel i hi (n + q) (by omega)
  have h8 := mod_of_dvd9 h7 y0 y1
  rw [Int.emod_eq_of_lt x0 x1] at h8
  exact h8.symm
end
end Go.Proofs.Ytekhjoenejgmaaa

/- The product of grids of the program. -/
import Derived.Test.YtpifgapogbbcnaaInc
import Derived.Test.YtpifgapogbbcnaaGm
namespace Go.Proofs.Ytpifgapogbbcnaa
open Go.RowKit Go.Deep
set_option linter.unusedVariables false

/-- The sum of the first products. -/
def dotTo (a b : Nat → Int) : Nat → Int
  | 0 => 0
  | k + 1 => dotTo a b k + a k * b k
def dotAt (z y : List (List Int)) (r c k : Nat) : Int := dotTo (nth (nthL z r)) (fun q => nth (nthL y q) c) k
/-- What is there when row i has been multiplied by k rows. -/
def prAt (z y : List (List Int)) (p : Int) (cn i k : Nat) : Nat → Nat → Int := fun r c => if r < i then dotAt z y r c cn % p else if r = i then dotAt z y r c k % p else 0
theorem prAt_elem (z y : List (List Int)) (p : Int) (cn i k : Nat) (hp : 2 ≤ p) (r c : Nat) : Elem p (prAt z y p cn i k r c) := by
  unfold prAt
  split
  · exact mod_elem hp _
  · split
    · exact mod_elem hp _
    · exact ⟨Int.le_refl _, by omega⟩
theorem prAt_step (z y : List (List Int)) (p : Int) (cn i k n : Nat) : tab z.length n (chTo (prAt z y p cn i k) i n (fun j x => (x + nth (nthL y k) j * nth (nthL z i) k % p) % p)) = tab z.length n (prAt z y p cn i (k + 1)) := by
  refine tab_ext fun r c hr hc => ?_
  unfold chTo
  by_cases e : r = i
  · subst e
    rw [if_pos ⟨rfl, hc⟩]
    simp only [prAt, Nat.lt_irrefl, if_false, if_true, dotAt, dotTo]
    rw [← Int.add_emod, Int.mul_comm]
  · rw [if_neg (fun q => e q.1)]
    simp only [prAt, if_neg e]
theorem prAt_start (z y : List (List Int)) (p : Int) (cn n : Nat) : zs z.length n = tab z.length n (prAt z y p cn 0 0) := by
  rw [zs_tab]
  refine tab_ext fun r c hr hc => ?_
  unfold prAt dotAt dotTo
  by_cases e : r = 0
  · subst e; simp
  · rw [if_neg (by omega), if_neg e]
theorem prAt_next (z y : List (List Int)) (p : Int) (cn i n : Nat) : tab z.length n (prAt z y p cn i cn) = tab z.length n (prAt z y p cn (i + 1) 0) := by
  refine tab_ext fun r c hr hc => ?_
  unfold prAt
  by_cases e : r = i
  · subst e
    rw [if_neg (Nat.lt_irrefl _), if_pos rfl, if_pos (Nat.lt_succ_self _)]
  · by_cases e2 : r = i + 1
    · subst e2
      rw [if_neg (by omega), if_neg e, if_neg (by omega), if_pos rfl]
      simp [dotAt, dotTo]
    · by_cases e3 : r < i
      · rw [if_pos e3, if_pos (by omega)]
      · rw [if_neg e3, if_neg e, if_neg (by omega), if_neg e2]
/-- The product. -/
def prod (z y : List (List Int)) (p : Int) (cn n : Nat) : List (List Int) := tab z.length n (fun r c => dotAt z y r c cn % p)
theorem prAt_end (z y : List (List Int)) (p : Int) (cn n : Nat) : tab z.length n (prAt z y p cn z.length 0) = prod z y p cn n := by
  refine tab_ext fun r c hr hc => ?_
  unfold prAt
  rw [if_pos hr]
theorem nums_block {w : World} {a : Option Addr} {p : Int} {zs : List Int} (h : Nums w a p zs) (hl : 0 < zs.length) : ∀ x, a = some x → x.block < w.heap.size := by
  intro x hx
  rcases h with h | ⟨b, hb, hc⟩
  · rw [h] at hl; exact absurd hl (Nat.lt_irrefl _)
  · rw [hb] at hx; cases hx
    exact World.block_lt_of_cell? _ _ (hc 0 hl).1
theorem OwnG.rlt {W : World} {base : Nat} {p : Int} {v : Value} {us : List Value} {zss : List (List Int)} (h : OwnG W base p v us zss) {r g n cap : Nat} (hu : us[r]? = some (.slice (some ⟨g, 0, none⟩) n cap)) : base ≤ g ∧ g < W.heap.size := by
  have hr : r < us.length := (List.getElem?_eq_some_iff.1 hu).1
  have hz : r < zss.length := by rw [← h.rows.len]; exact hr
  exact row_lt (h.rows.own r _ zss[r] hu (by simp [hz])) rfl

end Go.Proofs.Ytpifgapogbbcnaa

/- SharesOf of the program: the last statement's facts. -/
import Derived.Test.YtekhjoenejgmaaaSho
namespace Go.Proofs.Ytekhjoenejgmaaa
open Go.RowKit Go.Deep Go.Joins
set_option linter.unusedVariables false

theorem sh_tlen (z : List (List Int)) (n : Nat) : (turned z n).length = n := tab_len _ _ _
theorem sh_trow {z : List (List Int)} {n : Nat} {f : Int} (hz : ∀ r, r < z.length → (nthL z r).length = n ∧ Elems f (nthL z r)) : ∀ r, r < (turned z n).length → (nthL (turned z n) r).length = z.length ∧ Elems f (nthL (turned z n) r) := fun r hr => by
  rw [sh_tlen] at hr
  have h1 : (nthL (turned z n) r).length = z.length := tab_rlen _ _ _ hr
  refine ⟨h1, fun i hi => ?_⟩
  rw [h1] at hi
  rw [turned, tab_at _ _ _ hr hi]
  exact (hz i hi).2 r (by rw [(hz i hi).1]; exact hr)
theorem dot_comm (a b : Nat → Int) : ∀ k, dotTo a b k = dotTo b a k
  | 0 => rfl
  | k + 1 => by simp only [dotTo]; rw [dot_comm a b k, Int.mul_comm]
theorem sh_row0 (f : Int) (z : List (List Int)) (x : Int) (bl : List Int) (n : Nat) : nthL (prod [x :: bl] (turned z n) f n z.length) 0 = shTo f (n : Int) z x bl z.length := by
  unfold prod
  rw [tab_row _ _ _ (by simp)]
  unfold shTo
  refine List.map_congr_left fun c hc => ?_
  have hc' : c < z.length := by simpa using hc
  show dotTo (nth (x :: bl)) (fun q => nth (nthL (turned z n) q) c) n % f = _
  rw [Int.toNat_natCast, dot_comm]
  rw [dotTo_congr (a' := nth (nthL z c)) (b' := nth (x :: bl)) n (fun j hj => ⟨by show nth (nthL (turned z n) j) c = _; unfold turned; rw [tab_at _ _ _ hj hc'], rfl⟩) n (Nat.le_refl _)]
theorem sh_first {W : World} {base : Nat} {v : Value} {us : List Value} {pz : List (List Int)} (h : Own W base v us pz) (h1 : pz.length = 1) : ∃ (g c : Nat) (ua : Option Addr) (uc : Nat), v = .slice (some ⟨g, 0, none⟩) 1 c ∧ W.cell? ⟨g, 0, none⟩ = some (.slice ua (nthL pz 0).length uc) ∧ OwnI W base (.slice ua (nthL pz 0).length uc) (nthL pz 0) ∧ g < W.heap.size := by
  obtain ⟨g, c, rfl, hg0, hg1⟩ := h.row.form (by omega)
  have hu : us.length = 1 := by rw [h.rows.len]; exact h1
  have hc := World.ownsRow.cellAt h.row 0 (by omega)
  rw [List.getElem?_eq_getElem (by omega)] at hc
  have ho := h.rows.own 0 us[0] pz[0] (by simp [hu]) (by simp [h1])
  have e : nthL pz 0 = pz[0] := nthL_lt (by omega)
  rw [← e] at ho
  obtain ⟨ua, uc, hv⟩ := rowForm ho
  rw [hv] at hc ho
  exact ⟨g, c, ua, uc, by rw [h1], hc, ho, hg1⟩
theorem run_field_g (v : Value) (p c : Int) (w : World) : Sem.run Try.prog (Instr.field 78 (.agg #[v, .int .i64 p, .int .i64 c]) 0) w = .ok v w := by
  simp [Instr.field, asAgg, go_sem]
theorem gridOf2 {W : World} {base n c : Nat} {p : Int} {a : Option Addr} {us : List Value} {zss : List (List Int)} (h : OwnG W base p (.slice a n c) us zss) : GridR W a p zss := h.grid2
end Go.Proofs.Ytekhjoenejgmaaa

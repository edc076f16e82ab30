/- Slices of slices that a call has made. -/
import Derived.Test.YtnebkhelobpkpaaDoorTab
import Derived.Test.YtnebkhelobpkpaaDoorOwn
import Derived.RangeFuncBox
namespace Go.Proofs.YtnebkhelobpkpaaDoor
open Go.RowKit Go.Deep Go.Shelf
set_option linter.unusedVariables false

theorem TableAt.below {n : Nat} {w W : World} {T h : Nat} {q : Nat → Bool} (ht : TableAt w T h q) (hb : Below n w W) (hT : T < n) : TableAt W T h q :=
  ⟨(hb.cell (p := ⟨T, 0, none⟩) hT).trans ht.h0, fun x hx => (hb.cell (p := ⟨T, 1 + x, none⟩) hT).trans (ht.cell x hx), fun o => (hb.frozen (p := ⟨T, o, none⟩) hT).trans (ht.free o)⟩

theorem rows_apart {W : World} {b1 e1 s1 k1 b2 e2 s2 k2 : Nat} {v1 v2 : Value} {xs1 xs2 : List Value} (h1 : W.ownsRow b1 e1 s1 v1 k1 xs1) (h2 : W.ownsRow b2 e2 s2 v2 k2 xs2) (he : e1 ≠ e2) :
    v1.ownBlock = none ∨ v1.ownBlock ≠ v2.ownBlock := by
  rcases h1.2 with ⟨rfl, _⟩ | ⟨g, cap, cur, rfl, _, hg, _⟩
  · exact .inl rfl
  · refine .inr fun e => ?_
    rcases h2.2 with ⟨rfl, _⟩ | ⟨g2, cap2, cur2, rfl, _, hg2, _⟩
    · simp [Value.ownBlock] at e
    · obtain rfl : g = g2 := by simpa [Value.ownBlock] using e
      rw [hg] at hg2
      cases hg2
      exact he rfl

theorem row_free {W W' : World} {row : Option Nat} {base e size k : Nat} {v : Value} {xs : List Value} (h : W.ownsRow base e size v k xs) (hg : W.grownBy W' row)
    (hrow : ∀ r, row = some r → ∃ o : Obj, W.heap[r]? = some o ∧ o.isCells = false) : W'.ownsRow base e size v k xs := by
  refine h.kept hg ?_
  rcases h.2 with ⟨rfl, _⟩ | ⟨g, cap, cur, rfl, _, hgb, _⟩
  · exact .inl rfl
  · refine .inr fun e' => ?_
    obtain ⟨o, ho, hc⟩ := hrow g (by simpa [Value.ownBlock] using e'.symm)
    rw [hgb] at ho; cases ho; cases hc

theorem row_step {w w' : World} {base e size k : Nat} {v : Value} {xs : List Value} (h : w.ownsRow base e size v k xs) (hb : Below w.heap.size w w') : w'.ownsRow base e size v k xs := by
  refine ⟨h.1, ?_⟩
  rcases h.2 with h2 | ⟨g, cap, cur, hv, hg, hh, r⟩
  · exact .inl h2
  · exact .inr ⟨g, cap, cur, hv, hg, by rw [hb.block g (Array.getElem?_eq_some_iff.1 hh).1]; exact hh, r⟩

/-- The rows are owned, each in a block of its own. -/
structure RowsOwn (W : World) (base : Nat) (us : List Value) (zss : List (List Int)) : Prop where
  len : us.length = zss.length
  own : ∀ (i : Nat) (u : Value) (zs : List Int), us[i]? = some u → zss[i]? = some zs → OwnI W base u zs
  sep : us.Pairwise fun u u' => ∀ b b', u.ownBlock = some b → u'.ownBlock = some b' → b < b'

theorem RowsOwn.nil (W : World) (base : Nat) : RowsOwn W base [] [] := ⟨rfl, fun i u zs h => by simp at h, List.Pairwise.nil⟩

theorem RowsOwn.map {W W' : World} {base : Nat} {us : List Value} {zss : List (List Int)} (h : RowsOwn W base us zss) (hk : ∀ u zs, OwnI W base u zs → OwnI W' base u zs) : RowsOwn W' base us zss :=
  ⟨h.len, fun i u zs h1 h2 => hk u zs (h.own i u zs h1 h2), h.sep⟩

theorem RowsOwn.mono {W : World} {base base' : Nat} {us : List Value} {zss : List (List Int)} (h : RowsOwn W base us zss) (hb : base' ≤ base) : RowsOwn W base' us zss :=
  ⟨h.len, fun i u zs h1 h2 => (h.own i u zs h1 h2).mono hb, h.sep⟩

theorem OwnI.lt {W : World} {base b : Nat} {u : Value} {zs : List Int} (h : OwnI W base u zs) (hb : u.ownBlock = some b) : base ≤ b ∧ b < W.heap.size := by
  rcases h.2 with ⟨rfl, _⟩ | ⟨g, cap, cur, rfl, hg, hgb, _⟩
  · simp [Value.ownBlock] at hb
  · obtain rfl : g = b := by simpa [Value.ownBlock] using hb
    exact ⟨hg, (Array.getElem?_eq_some_iff.1 hgb).1⟩

theorem OwnI.form {W : World} {base : Nat} {u : Value} {zs : List Int} (h : OwnI W base u zs) : ∃ a c, u = .slice a zs.length c := by
  rcases h.2 with ⟨rfl, hn⟩ | ⟨g, cap, cur, rfl, _⟩
  · exact ⟨none, 0, by rw [hn]⟩
  · exact ⟨_, _, rfl⟩

theorem RowsOwn.snoc {W W' : World} {base : Nat} {us : List Value} {zss : List (List Int)} {u : Value} {zs : List Int} (h : RowsOwn W base us zss) (hb : Below W.heap.size W W') (hu : OwnI W' W.heap.size u zs) (hB : base ≤ W.heap.size) :
    RowsOwn W' base (us ++ [u]) (zss ++ [zs]) := by
  refine ⟨by simp [h.len], fun i u1 zs1 h1 h2 => ?_, ?_⟩
  · by_cases hi : i < us.length
    · rw [List.getElem?_append_left hi] at h1
      rw [List.getElem?_append_left (by rw [← h.len]; exact hi)] at h2
      exact (h.own i u1 zs1 h1 h2).step hb
    · rw [List.getElem?_append_right (by omega)] at h1
      rw [List.getElem?_append_right (by rw [← h.len]; omega), ← h.len] at h2
      have h0 : i - us.length = 0 := by
        have := (List.getElem?_eq_some_iff.1 h1).1
        simp at this; omega
      rw [h0] at h1 h2
      simp at h1 h2
      subst h1; subst h2
      exact hu.mono hB
  · refine List.pairwise_append.2 ⟨h.sep, by simp, fun u1 hu1 u2 hu2 b b' e1 e2 => ?_⟩
    simp at hu2; subst hu2
    obtain ⟨i, hi, rfl⟩ := List.mem_iff_getElem.1 hu1
    have h3 := (h.own i us[i] (zss[i]'(by rw [← h.len]; exact hi)) (by simp [hi]) (by simp)).lt e1
    have h4 := hu.lt e2
    omega

/-- What gives a slice of slices of its own. -/
structure GivesRows (W : World) (zss : List (List Int)) (e : Ending) (w' : World) : Prop where
  val : ∃ v us, e = .returned v ∧ w'.ownsRow W.heap.size 26 1 v zss.length us ∧ RowsOwn w' W.heap.size us zss
  below : Below W.heap.size W w'

theorem opIn_append {F : Fence} {n : Nat} {P : Program} (w : World) {o : Oper} {a : Act} {K : Act → World → Prop} {Q : Exit → Act → World → Prop} (s x : Operand) (t : TypeId) (hop : o.op = Op.call { callee := Callee.builtin Builtin.append, args := #[s, x], argTypes := #[t, t] })
    (base : Nat) (e : TypeId) (i : TypeInfo) (z : Value) (size bytes : Nat) (h1 : P.underlying t = some (.slice e)) (h2 : P.info? e = some i) (h3 : i.zero = some z) (h4 : i.size = size) (h5 : i.bytes = bytes) (h6 : z.cells.size = size) (h7 : 0 < size)
    (v : Value) (k : Nat) (xs : List Value) (hs : a.eval s = v) (hown : w.ownsRow base e size v k xs) (ad : Addr) (m c : Nat) (news : List Value) (hx : a.eval x = .slice (some ad) m c) (hn : news.length = m * size)
    (hc : ∀ j u, news[j]? = some u → w.cell? (ad.add j) = some u) (h1c : ∀ u ∈ news, u.oneCell' = true) (b1 : k + m ≤ maxLen) (b2 : (k + m) * bytes ≤ 140737488355328) (b3 : base ≤ w.heap.size)
    (hK : ∀ v' w', w'.ownsRow base e size v' (k + m) (xs ++ news) → w.grownBy w' v.ownBlock → K (a.put o.dst v') w') : o.wpIn F n P a w K Q := by
  obtain ⟨v', w', hrun, r1, r2, r3⟩ := run_append_own (P := P) w base t o.type e i z size bytes h1 h2 h3 h4 h5 h6 h7 v k xs hown ad m c news hn hc h1c b1 b2 b3
  unfold Oper.wpIn
  refine ⟨?_, ?_⟩
  · simp [Oper.about, hop, resolve, Target.leads, Sem.run_pure]
  · rw [Oper.semAt_plain F _ _ (by rw [hop]; intro c hc'; cases hc')]
    simp [execOp, hop, resolve, invoke, builtin, hs, hx, hrun, Result.andThen]
    exact hK v' w' r1 r2
theorem row_cell {W : World} {base e n c : Nat} {a : Option Addr} {xs : List Value} (h : W.ownsRow base e 1 (.slice a n c) n xs) {k : Nat} (hk : k < n) : ∃ g, a = some ⟨g, 0, none⟩ ∧ W.cell? ⟨g, k, none⟩ = xs[k]? := by
  rcases h.2 with ⟨hv, hn⟩ | ⟨g, cap, cur, hv, _⟩
  · cases hv; omega
  · cases hv
    exact ⟨g, rfl, World.ownsRow.cellAt h k (by omega)⟩

end Go.Proofs.YtnebkhelobpkpaaDoor

/- What the walks of chapter 3 use of memory: slices that a call has made, marks on them; and the checks that all use. -/
import Derived.Test.YtnebkhelobpkpaaTo
import Derived.Test.YtnebkhelobpkpaaSz
import Derived.Test.YtnebkhelobpkpaaOpen
import Derived.Handy
import Derived.RangeFuncBox
import Derived.OwnWalkIn
namespace Go.Proofs.Ytnebkhelobpkpaa
open Go.RowKit Go.Deep
set_option linter.unusedVariables false

/-- A proposition as a Bool, by one instance alone. -/
noncomputable def tell (p : Prop) : Bool := @decide p (Classical.propDecidable p)
theorem tell_true {p : Prop} (h : p) : tell p = true := @decide_eq_true p (Classical.propDecidable p) h
theorem tell_false {p : Prop} (h : ¬ p) : tell p = false := @decide_eq_false p (Classical.propDecidable p) h
theorem of_tell {p : Prop} (h : tell p = true) : p := @of_decide_eq_true p (Classical.propDecidable p) h
theorem of_tell_false {p : Prop} (h : tell p = false) : ¬ p := @of_decide_eq_false p (Classical.propDecidable p) h
theorem tell_congr {p q : Prop} (h : p ↔ q) : tell p = tell q := by rw [propext h]
theorem tell_not {p : Prop} : (!tell p) = tell (¬ p) := by
  by_cases h : p
  · rw [tell_true h, tell_false (fun k => k h)]; rfl
  · rw [tell_false h, tell_true h]; rfl
theorem decide_tell {p : Prop} [Decidable p] : decide p = tell p := by
  by_cases h : p
  · rw [tell_true h, decide_eq_true h]
  · rw [tell_false h, decide_eq_false h]
theorem ret_bool {a b : Bool} (h : a = b) : Ending.returned (.bool a) = .returned (.bool b) := by rw [h]
theorem ret_i64 {a b : Int} (h : a = b) : Ending.returned (.int .i64 a) = .returned (.int .i64 b) := by rw [h]
theorem quiet_below {w w' : World} (h : Quiet w w') : Below w.heap.size w w' := by
  obtain ⟨n, rfl⟩ := h
  exact below_drewN (Below.refl _ _) n
theorem Ints.quiet {w w' : World} {a : Option Addr} {zs : List Int} (h : Ints w a zs) (q : Quiet w w') : Ints w' a zs := h.below (quiet_below q) (Nat.le_refl _)
theorem Rows2.quiet {w w' : World} {a : Option Addr} {zss : List (List Int)} (h : Rows2 w a zss) (q : Quiet w w') : Rows2 w' a zss := h.below (quiet_below q) (Nat.le_refl _)
theorem Quiet.cell {w w' : World} (h : Quiet w w') (p : Addr) : w'.cell? p = w.cell? p := by
  obtain ⟨n, rfl⟩ := h
  exact World.cell?_drewN _ _ _
theorem Quiet.trans {a b c : World} (h : Quiet a b) (k : Quiet b c) : Quiet a c := by
  obtain ⟨n, rfl⟩ := h
  obtain ⟨m, rfl⟩ := k
  exact ⟨n + m, by rw [World.drewN_drewN]⟩
set_option maxRecDepth 100000 in
/-- 'eqInt64SS' at one list twice: true. -/
theorem eqInt64SS_same (a b : Option Addr) (xs : List (List Int)) (ca cb : Nat) (w : World) (ha : Rows2 w a xs) (hb : Rows2 w b xs) (hl : xs.length ≤ 9223372036854775807) (hll : ∀ r, r < xs.length → (nthL xs r).length ≤ 9223372036854775807) :
    Calls Try.prog 66 #[.slice a xs.length ca, .slice b xs.length cb] w fun e w' => e = .returned (.bool true) ∧ Quiet w w' := by
  have HL := Lib.hid hll
  clear hll
  go_enter Try.func66, Try.ntmps66
  go_wp2
  go_loopw [5] (fun i wr => ∃ k : Nat, k ≤ xs.length ∧ i = .int .i64 k ∧ Quiet w wr)
    (fun i _ => xs.length - (intOf i).toNat)
  case atStart => exact ⟨0, Nat.zero_le _, rfl, Quiet.refl _⟩
  case round =>
    obtain ⟨k, hk, rfl, hq⟩ := hrel
    by_cases hlt : k < xs.length
    · have ha' := ha.quiet hq
      have hb' := hb.quiet hq
      rcases ha' with h | ⟨b1, o1, rfl, hc1⟩
      · rw [h] at hlt; exact absurd hlt (Nat.not_lt_zero _)
      rcases hb' with h | ⟨b2, o2, rfl, hc2⟩
      · rw [h] at hlt; exact absurd hlt (Nat.not_lt_zero _)
      obtain ⟨a1, c1, g1, i1⟩ := hc1 k hlt
      obtain ⟨a2, c2, g2, i2⟩ := hc2 k hlt
      have hi : ((k : Int)) < (xs.length : Int) := by omega
      have I1 := Lib.hid i1
      have I2 := Lib.hid i2
      have HQ := Lib.hid hq
      clear hc1 hc2 i1 i2 hq
      go_wp2
      go_quiet ((go_at_call 29; refine Calls.quiet_of (eqInt64S_same _ _ (nthL xs k) _ _ _ ?_ ?_ (HL.out k hlt)); exact (I1.out.quiet ⟨_, rfl⟩); exact (I2.out.quiet ⟨_, rfl⟩)))
      go_wp2
      go_roundw
      case rel => exact ⟨k + 1, by omega, by go_num, HQ.out.trans ⟨_, rfl⟩⟩
      case measure => simp [intOf]; omega
    · go_wp2
      go_ret
      exact ⟨rfl, hq⟩
theorem swapped {P : Program} {f : FuncId} {args : Array Value} {w : World} {v : Value} (h : Calls P f args w fun e w' => e = .returned v ∧ w = w') : Calls P f args w fun e w' => e = .returned v ∧ w' = w :=
  h.mono fun _ _ ⟨h1, h2⟩ => ⟨h1, h2.symm⟩
set_option maxRecDepth 100000 in
theorem l00In_val (n lo hi : Int) (b : Bool) (w : World) (hb : (decide (lo ≤ n) && decide (n ≤ hi)) = b) : Calls Try.prog 47 #[.int .i64 n, .int .i64 lo, .int .i64 hi] w fun e w' => e = .returned (.bool b) ∧ w = w' := by
  subst hb
  by_cases h1 : lo ≤ n <;> by_cases h2 : n ≤ hi
  all_goals
    go_enter Try.func47, Try.ntmps47
    go_wp2
    go_ret
    simp [h1, h2]
/-- Numbers as values. -/
def vals (zs : List Int) : List Value := zs.map (Value.int .i64)
/-- A slice of numbers that a call has made. -/
def OwnI (w : World) (base : Nat) (v : Value) (zs : List Int) : Prop := w.ownsRow base 2 1 v zs.length (vals zs)
/-- What gives a slice of numbers of its own. -/
structure GivesInts (W : World) (zs : List Int) (e : Ending) (w' : World) : Prop where
  val : ∃ v, e = .returned v ∧ OwnI w' W.heap.size v zs
  below : Below W.heap.size W w'
theorem vals_snoc (zs : List Int) (z : Int) : vals (zs ++ [z]) = vals zs ++ [.int .i64 z] := by simp [vals]
theorem ownsRow_mono {w : World} {base base' : Nat} {t : TypeId} {size : Nat} {v : Value} {n : Nat} {xs : List Value} (h : w.ownsRow base t size v n xs) (hb : base' ≤ base) : w.ownsRow base' t size v n xs := by
  refine ⟨h.1, ?_⟩
  rcases h.2 with h2 | ⟨g, cap, cur, hv, hg, r⟩
  · exact .inl h2
  · exact .inr ⟨g, cap, cur, hv, Nat.le_trans hb hg, r⟩
/-- What gives a slice of numbers of its own, and a code. -/
structure GivesIntsCode (W : World) (zs : List Int) (code : Int) (e : Ending) (w' : World) : Prop where
  val : ∃ v, e = .returned (.tuple #[v, .int .i64 code]) ∧ OwnI w' W.heap.size v zs
  below : Below W.heap.size W w'
theorem OwnI.mono {w : World} {base base' : Nat} {v : Value} {zs : List Int} (h : OwnI w base v zs) (hb : base' ≤ base) : OwnI w base' v zs := ownsRow_mono h hb
theorem OwnI.nil (w : World) (base : Nat) : OwnI w base (.slice none 0 0) [] := World.ownsRow_nil _ _ _ _
theorem OwnI.step {w w' : World} {base : Nat} {v : Value} {zs : List Int} (h : OwnI w base v zs) (hb : Below w.heap.size w w') : OwnI w' base v zs := by
  refine ⟨h.1, ?_⟩
  rcases h.2 with h2 | ⟨g, cap, cur, hv, hg, hh, r⟩
  · exact .inl h2
  · exact .inr ⟨g, cap, cur, hv, hg, by rw [hb.block g (Array.getElem?_eq_some_iff.1 hh).1]; exact hh, r⟩
theorem OwnI.ints {w : World} {base : Nat} {v : Value} {zs : List Int} (h : OwnI w base v zs) : ∃ a c, v = .slice a zs.length c ∧ Ints w a zs ∧ zs.length ≤ 9223372036854775807 := by
  rcases h.2 with ⟨hv, hn⟩ | ⟨g, cap, cur, hv, hb, hg, hnc, hcm, hcs, htake⟩
  · exact ⟨none, 0, by rw [hv, hn], .inl (List.eq_nil_of_length_eq_zero hn), by omega⟩
  · subst hv
    refine ⟨_, _, rfl, .inr ⟨g, 0, rfl, fun i hi => ?_⟩, by unfold maxLen at hcm; omega⟩
    rw [Nat.zero_add, World.ownsRow.cellAt h i (by omega)]
    simp [vals, hi, nth_lt hi]
theorem GivesInts.code {W w0 w' : World} {zs : List Int} {v : Value} (h : OwnI w' w0.heap.size v zs) (hs : W.heap.size ≤ w0.heap.size) (hb : Below W.heap.size W w') (code : Int) : GivesIntsCode W zs code (.returned (.tuple #[v, .int .i64 code])) w' :=
  ⟨⟨v, rfl, h.mono hs⟩, hb⟩
theorem rows_apart {W : World} {b1 e1 s1 k1 b2 e2 s2 k2 : Nat} {v1 v2 : Value} {xs1 xs2 : List Value} (h1 : W.ownsRow b1 e1 s1 v1 k1 xs1) (h2 : W.ownsRow b2 e2 s2 v2 k2 xs2) (he : e1 ≠ e2) :
    v1.ownBlock = none ∨ v1.ownBlock ≠ v2.ownBlock := by
  rcases h1.2 with ⟨rfl, _⟩ | ⟨g, cap, cur, rfl, _, hg, _⟩
  · exact .inl rfl
  · refine .inr fun e => ?_
    rcases h2.2 with ⟨rfl, _⟩ | ⟨g2, cap2, cur2, rfl, _, hg2, _⟩
    · simp [Value.ownBlock] at e
    · obtain rfl : g = g2 := by simpa [Value.ownBlock] using e
      rw [hg] at hg2
      cases hg2
      exact he rfl
theorem row_free {W W' : World} {row : Option Nat} {base e size k : Nat} {v : Value} {xs : List Value} (h : W.ownsRow base e size v k xs) (hg : W.grownBy W' row)
    (hrow : ∀ r, row = some r → ∃ o : Obj, W.heap[r]? = some o ∧ o.isCells = false) : W'.ownsRow base e size v k xs := by
  refine h.kept hg ?_
  rcases h.2 with ⟨rfl, _⟩ | ⟨g, cap, cur, rfl, _, hgb, _⟩
  · exact .inl rfl
  · refine .inr fun e' => ?_
    obtain ⟨o, ho, hc⟩ := hrow g (by simpa [Value.ownBlock] using e'.symm)
    rw [hgb] at ho; cases ho; cases hc
theorem row_step {w w' : World} {base e size k : Nat} {v : Value} {xs : List Value} (h : w.ownsRow base e size v k xs) (hb : Below w.heap.size w w') : w'.ownsRow base e size v k xs := by
  refine ⟨h.1, ?_⟩
  rcases h.2 with h2 | ⟨g, cap, cur, hv, hg, hh, r⟩
  · exact .inl h2
  · exact .inr ⟨g, cap, cur, hv, hg, by rw [hb.block g (Array.getElem?_eq_some_iff.1 hh).1]; exact hh, r⟩
/-- The rows are owned, each in a block of its own. -/
structure RowsOwn (W : World) (base : Nat) (us : List Value) (zss : List (List Int)) : Prop where
  len : us.length = zss.length
  own : ∀ (i : Nat) (u : Value) (zs : List Int), us[i]? = some u → zss[i]? = some zs → OwnI W base u zs
  sep : us.Pairwise fun u u' => ∀ b b', u.ownBlock = some b → u'.ownBlock = some b' → b < b'
theorem RowsOwn.nil (W : World) (base : Nat) : RowsOwn W base [] [] := ⟨rfl, fun i u zs h => by simp at h, List.Pairwise.nil⟩
theorem RowsOwn.map {W W' : World} {base : Nat} {us : List Value} {zss : List (List Int)} (h : RowsOwn W base us zss) (hk : ∀ u zs, OwnI W base u zs → OwnI W' base u zs) : RowsOwn W' base us zss :=
  ⟨h.len, fun i u zs h1 h2 => hk u zs (h.own i u zs h1 h2), h.sep⟩
theorem RowsOwn.mono {W : World} {base base' : Nat} {us : List Value} {zss : List (List Int)} (h : RowsOwn W base us zss) (hb : base' ≤ base) : RowsOwn W base' us zss :=
  ⟨h.len, fun i u zs h1 h2 => (h.own i u zs h1 h2).mono hb, h.sep⟩
theorem OwnI.lt {W : World} {base b : Nat} {u : Value} {zs : List Int} (h : OwnI W base u zs) (hb : u.ownBlock = some b) : base ≤ b ∧ b < W.heap.size := by
  rcases h.2 with ⟨rfl, _⟩ | ⟨g, cap, cur, rfl, hg, hgb, _⟩
  · simp [Value.ownBlock] at hb
  · obtain rfl : g = b := by simpa [Value.ownBlock] using hb
    exact ⟨hg, (Array.getElem?_eq_some_iff.1 hgb).1⟩
theorem OwnI.form {W : World} {base : Nat} {u : Value} {zs : List Int} (h : OwnI W base u zs) : ∃ a c, u = .slice a zs.length c := by
  rcases h.2 with ⟨rfl, hn⟩ | ⟨g, cap, cur, rfl, _⟩
  · exact ⟨none, 0, by rw [hn]⟩
  · exact ⟨_, _, rfl⟩
theorem RowsOwn.snoc {W W' : World} {base : Nat} {us : List Value} {zss : List (List Int)} {u : Value} {zs : List Int} (h : RowsOwn W base us zss) (hb : Below W.heap.size W W') (hu : OwnI W' W.heap.size u zs) (hB : base ≤ W.heap.size) :
    RowsOwn W' base (us ++ [u]) (zss ++ [zs]) := by
  refine ⟨by simp [h.len], fun i u1 zs1 h1 h2 => ?_, ?_⟩
  · by_cases hi : i < us.length
    · rw [List.getElem?_append_left hi] at h1
      rw [List.getElem?_append_left (by rw [← h.len]; exact hi)] at h2
      exact (h.own i u1 zs1 h1 h2).step hb
    · rw [List.getElem?_append_right (by omega)] at h1
      rw [List.getElem?_append_right (by rw [← h.len]; omega), ← h.len] at h2
      have h0 : i - us.length = 0 := by
        have := (List.getElem?_eq_some_iff.1 h1).1
        simp at this; omega
      rw [h0] at h1 h2
      simp at h1 h2
      subst h1; subst h2
      exact hu.mono hB
  · refine List.pairwise_append.2 ⟨h.sep, by simp, fun u1 hu1 u2 hu2 b b' e1 e2 => ?_⟩
    simp at hu2; subst hu2
    obtain ⟨i, hi, rfl⟩ := List.mem_iff_getElem.1 hu1
    have h3 := (h.own i us[i] (zss[i]'(by rw [← h.len]; exact hi)) (by simp [hi]) (by simp)).lt e1
    have h4 := hu.lt e2
    omega
/-- What gives a slice of slices of its own. -/
structure GivesRows (W : World) (zss : List (List Int)) (e : Ending) (w' : World) : Prop where
  val : ∃ v us, e = .returned v ∧ w'.ownsRow W.heap.size 35 1 v zss.length us ∧ RowsOwn w' W.heap.size us zss
  below : Below W.heap.size W w'
theorem opIn_append {F : Fence} {n : Nat} {P : Program} (w : World) {o : Oper} {a : Act} {K : Act → World → Prop} {Q : Exit → Act → World → Prop} (s x : Operand) (t : TypeId) (hop : o.op = Op.call { callee := Callee.builtin Builtin.append, args := #[s, x], argTypes := #[t, t] })
    (base : Nat) (e : TypeId) (i : TypeInfo) (z : Value) (size bytes : Nat) (h1 : P.underlying t = some (.slice e)) (h2 : P.info? e = some i) (h3 : i.zero = some z) (h4 : i.size = size) (h5 : i.bytes = bytes) (h6 : z.cells.size = size) (h7 : 0 < size)
    (v : Value) (k : Nat) (xs : List Value) (hs : a.eval s = v) (hown : w.ownsRow base e size v k xs) (ad : Addr) (m c : Nat) (news : List Value) (hx : a.eval x = .slice (some ad) m c) (hn : news.length = m * size)
    (hc : ∀ j u, news[j]? = some u → w.cell? (ad.add j) = some u) (h1c : ∀ u ∈ news, u.oneCell' = true) (b1 : k + m ≤ maxLen) (b2 : (k + m) * bytes ≤ 140737488355328) (b3 : base ≤ w.heap.size)
    (hK : ∀ v' w', w'.ownsRow base e size v' (k + m) (xs ++ news) → w.grownBy w' v.ownBlock → K (a.put o.dst v') w') : o.wpIn F n P a w K Q := by
  obtain ⟨v', w', hrun, r1, r2, r3⟩ := run_append_own (P := P) w base t o.type e i z size bytes h1 h2 h3 h4 h5 h6 h7 v k xs hown ad m c news hn hc h1c b1 b2 b3
  unfold Oper.wpIn
  refine ⟨?_, ?_⟩
  · simp [Oper.about, hop, resolve, Target.leads, Sem.run_pure]
  · rw [Oper.semAt_plain F _ _ (by rw [hop]; intro c hc'; cases hc')]
    simp [execOp, hop, resolve, invoke, builtin, hs, hx, hrun, Result.andThen]
    exact hK v' w' r1 r2
theorem row_cell {W : World} {base e n c : Nat} {a : Option Addr} {xs : List Value} (h : W.ownsRow base e 1 (.slice a n c) n xs) {k : Nat} (hk : k < n) : ∃ g, a = some ⟨g, 0, none⟩ ∧ W.cell? ⟨g, k, none⟩ = xs[k]? := by
  rcases h.2 with ⟨hv, hn⟩ | ⟨g, cap, cur, hv, _⟩
  · cases hv; omega
  · cases hv
    exact ⟨g, rfl, World.ownsRow.cellAt h k (by omega)⟩
theorem keepsBelow {A B : World} (h : Below A.heap.size A B) : KeepsOthers A B := ⟨h.size, fun k o hk _ => (h.block k (Array.getElem?_eq_some_iff.1 hk).1).trans hk⟩
theorem row_set {W : World} {base e size k : Nat} {v : Value} {xs : List Value} (h : W.ownsRow base e size v k xs) {b o : Nat} (hb : b < base) (u : Value) : (W.setCell ⟨b, o, none⟩ u).ownsRow base e size v k xs := by
  refine h.kept ⟨rfl, rfl, rfl, (KeepsWalks.setCell W _ u).size, fun k _ hk => Below.heap_setCell _ _ _ k (fun e => hk (by rw [e]))⟩ (row := some b) ?_
  rcases h.2 with ⟨rfl, _⟩ | ⟨g, cap, cur, rfl, hg, _⟩
  · exact .inl rfl
  · refine .inr fun e' => ?_
    obtain rfl : g = b := by simpa [Value.ownBlock] using e'
    omega
theorem rowForm {W : World} {base e size n : Nat} {v : Value} {xs : List Value} (h : W.ownsRow base e size v n xs) : ∃ a c, v = .slice a n c := by
  rcases h.2 with ⟨rfl, hn⟩ | ⟨g, cap, cur, rfl, _⟩
  · exact ⟨none, 0, by rw [hn]⟩
  · exact ⟨_, _, rfl⟩
theorem iteIntro {c : Bool} {A B : Prop} (h : c = true) (a : A) : (if c = true then A else B) := by rw [if_pos h]; exact a
/-- Only blocks from lo on and before hi may have turned; new ones may have come. -/
structure Touch (lo hi : Nat) (w w' : World) : Prop where
  os : w'.os = w.os
  tape : w'.tape = w.tape
  output : w'.output = w.output
  size : w.heap.size ≤ w'.heap.size
  block : ∀ k, k < w.heap.size → (k < lo ∨ hi ≤ k) → w'.heap[k]? = w.heap[k]?
theorem Touch.below {lo hi : Nat} {w w' : World} (h : Touch lo hi w w') {B : Nat} (hB : B ≤ lo) (hs : lo ≤ w.heap.size) : Below B w w' := ⟨h.os, h.tape, h.output, h.size, fun k hk => h.block k (by omega) (.inl (by omega))⟩
theorem Touch.cell {lo hi : Nat} {w w' : World} (h : Touch lo hi w w') {b o : Nat} {v : Value} (hc : w.cell? ⟨b, o, none⟩ = some v) (hb : b < lo ∨ hi ≤ b) : w'.cell? ⟨b, o, none⟩ = some v :=
  (World.cell?_of_block (w := w) (a := ⟨b, o, none⟩) (h.block b (World.block_lt_of_cell? _ _ hc) hb)).trans hc
theorem Touch.own {lo hi : Nat} {w w' : World} (h : Touch lo hi w w') {base : Nat} {v : Value} {zs : List Int} (k : OwnI w base v zs) (hb : hi ≤ base) : OwnI w' base v zs := by
  refine ⟨k.1, ?_⟩
  rcases k.2 with h2 | ⟨g, cap, cur, hv, hg, hh, r⟩
  · exact .inl h2
  · exact .inr ⟨g, cap, cur, hv, hg, by rw [h.block g (Array.getElem?_eq_some_iff.1 hh).1 (.inr (by omega))]; exact hh, r⟩
/-- n numbers from k on. -/
def marks (k : Int) (n : Nat) : List Int := (List.range n).map fun (i : Nat) => k + i
theorem marks_len (k : Int) (n : Nat) : (marks k n).length = n := by simp [marks]
theorem marks_nth (k : Int) {n i : Nat} (h : i < n) : nth (marks k n) i = k + i := by
  rw [nth_lt (by rw [marks_len]; exact h)]; simp [marks]
theorem marks_succ (k : Int) (n : Nat) : marks k (n + 1) = marks k n ++ [k + n] := by simp [marks, List.range_succ]
theorem half_step (k : Int) (zs : List Int) {j : Nat} (h : j < zs.length) : (vals (marks k j ++ zs.drop j)).set j (.int .i64 (k + j)) = vals (marks k (j + 1) ++ zs.drop (j + 1)) := by
  have e1 : zs.drop j = zs[j] :: zs.drop (j + 1) := List.drop_eq_getElem_cons h
  have e2 : (vals (marks k j)).length = j := by simp [vals, marks_len]
  rw [e1, marks_succ]
  simp only [vals, List.map_append, List.map_cons, List.append_assoc, List.cons_append, List.nil_append]
  have e3 : (List.map (Value.int IntKind.i64) (marks k j)).length = j := e2
  rw [List.set_append, if_neg (by omega), e3, Nat.sub_self]
  rfl
/-- What marks a slice of a call's own. -/
structure Marked (W : World) (base : Nat) (v : Value) (zs : List Int) (k : Int) (e : Ending) (w' : World) : Prop where
  val : e = .returned (.int .i64 (k + zs.length))
  own : OwnI w' base v (marks k zs.length)
  size : w'.heap.size = W.heap.size
  grown : W.grownBy w' v.ownBlock
set_option maxRecDepth 100000 in
set_option maxHeartbeats 400000 in
theorem markInt64S_any (v : Value) (zs : List Int) (base : Nat) (k : Int) (w : World) (ho : OwnI w base v zs) (hk0 : 0 ≤ k) (hk1 : k ≤ 1152921504606846976) (hl : zs.length ≤ 1152921504606846976) :
    Calls Try.prog 30 #[v, .int .i64 k] w (Marked w base v zs k) := by
  rcases ho.2 with ⟨rfl, hn⟩ | ⟨g, cap, cur, rfl, hbg, _⟩
  · have e0 : zs = [] := List.eq_nil_of_length_eq_zero hn
    subst e0
    clear hn ho
    go_enter Try.func30, Try.ntmps30
    go_wp2_with fail
    go_rounds 1
    go_ret
    exact ⟨by simp, World.ownsRow_nil _ _ _ _, rfl, World.grownBy.refl _ _⟩
  · have HO := Lib.hid ho
    clear ho
    go_enter Try.func30, Try.ntmps30
    go_wp2_with fail
    go_loopw [1, 5] (fun q i wr => ∃ j : Nat, j ≤ zs.length ∧ i = .int .i64 j ∧ q = .int .i64 (k + j) ∧ wr.ownsRow base 2 1 (.slice (some ⟨g, 0, none⟩) zs.length cap) zs.length (vals (marks k j ++ zs.drop j)) ∧ wr.heap.size = w.heap.size ∧ w.grownBy wr (some g))
      (fun _ i _ => zs.length - (intOf i).toNat)
    case atStart => exact ⟨0, Nat.zero_le _, rfl, by simp, by have h1 := HO.out; unfold OwnI at h1; simpa [marks] using h1, rfl, World.grownBy.refl _ _⟩
    case round =>
      obtain ⟨j, hj, rfl, rfl, hown, hsz, hgr⟩ := hrel
      by_cases hlt : j < zs.length
      · have hlen : (vals (marks k j ++ zs.drop j)).length = zs.length := by simp [vals, marks_len]; omega
        have hc0 := hown.cellAt j (by omega)
        rw [List.getElem?_eq_getElem (by rw [hlen]; exact hlt)] at hc0
        have hfr := hown.frozenAt j
        have hi0 : (j : Int) < (zs.length : Int) := by omega
        obtain ⟨hst1, hst2⟩ := hown.stored j (.int .i64 (k + j))
        rw [half_step k zs hlt] at hst1
        have H1 := Lib.hid hst1
        have H2 := Lib.hid (show w.grownBy (wr.setCell ⟨g, j, none⟩ (.int .i64 (k + j))) (some g) from ⟨hst2.os.trans hgr.os, hst2.tape.trans hgr.tape, hst2.output.trans hgr.output, Nat.le_trans hgr.size hst2.size, fun q hq hne => (hst2.block q (Nat.lt_of_lt_of_le hq hgr.size) hne).trans (hgr.block q hq hne)⟩)
        have H3 := Lib.hid (show (wr.setCell ⟨g, j, none⟩ (.int .i64 (k + j))).heap.size = w.heap.size by simpa using hsz)
        generalize (vals (marks k j ++ zs.drop j))[j]'(by rw [hlen]; exact hlt) = u0 at hc0
        clear hown hst1 hst2 hgr hsz hlen
        go_wp2_with fail
        go_roundw
        case rel => exact ⟨j + 1, by omega, by go_num, by go_num, H1.out, H3.out, H2.out⟩
        case measure => simp [intOf]; omega
      · have e : j = zs.length := by omega
        have HE := Lib.hid e
        have HW := Lib.hid hown
        have HG := Lib.hid hgr
        have HZ := Lib.hid hsz
        clear e hown hgr hsz
        go_wp2_with fail
        go_ret
        refine ⟨by rw [HE.out]; rfl, ?_, HZ.out, HG.out⟩
        have h1 := HW.out
        rw [HE.out, List.drop_length, List.append_nil] at h1
        unfold OwnI
        rw [marks_len]
        exact h1
set_option maxRecDepth 100000 in
theorem heldInt64S_any (a : Option Addr) (n c : Nat) (k : Int) (w : World) (h : Ints w a (marks k n)) (hk0 : 0 ≤ k) (hk1 : k ≤ 1152921504606846976) (hl : n ≤ 1152921504606846976) :
    Calls Try.prog 31 #[.slice a n c, .int .i64 k] w fun e w' => e = .returned (.int .i64 (k + n)) ∧ w = w' := by
  go_enter Try.func31, Try.ntmps31
  go_wp2_with fail
  go_loop [1, 5] (fun q i => ∃ j : Nat, j ≤ n ∧ i = .int .i64 j ∧ q = .int .i64 (k + j))
    (fun _ i => n - (intOf i).toNat)
  case atStart => exact ⟨0, Nat.zero_le _, rfl, by simp⟩
  case round =>
    obtain ⟨j, hj, rfl, rfl⟩ := hrel
    by_cases hlt : j < n
    · rcases h with h | ⟨b, o, rfl, hc⟩
      · have := congrArg List.length h
        rw [marks_len] at this
        simp at this
        omega
      have hcell := hc j (by rw [marks_len]; exact hlt)
      rw [marks_nth k hlt] at hcell
      have hi0 : (j : Int) < (n : Int) := by omega
      clear hc
      go_wp2_with fail
      go_round
      case rel => exact ⟨j + 1, by omega, by go_num, by go_num⟩
      case measure => simp [intOf]; omega
    · have HE := Lib.hid (show j = n by omega)
      go_wp2_with fail
      go_ret
      exact ⟨by rw [HE.out]; rfl, rfl⟩
theorem own_of_row {w : World} {g : Nat} {zs : List Int} (h : w.rowIs g 2 zs.length (fun i => .int .i64 (nth zs i))) (hl : zs.length ≤ maxLen) : OwnI w g (.slice (some ⟨g, 0, none⟩) zs.length zs.length) zs := by
  obtain ⟨c, hg, hn, hc⟩ := h
  refine ⟨by simp [vals], .inr ⟨g, zs.length, c, rfl, Nat.le_refl _, hg, Nat.le_refl _, hl, by omega, ?_⟩⟩
  apply List.ext_getElem?
  intro i
  by_cases hi : i < zs.length
  · rw [List.getElem?_take_of_lt (by omega), ← Array.getElem?_toList] at *
    have := hc i hi
    simp only [Array.getElem?_toList] at *
    rw [this]
    simp [vals, hi, nth_lt hi]
  · simp [vals, hi, hn]
theorem Touch.refl (lo hi : Nat) (w : World) : Touch lo hi w w := ⟨rfl, rfl, rfl, Nat.le_refl _, fun _ _ _ => rfl⟩
theorem Touch.trans {lo hi : Nat} {a b c : World} (h : Touch lo hi a b) (k : Touch lo hi b c) : Touch lo hi a c :=
  ⟨k.os.trans h.os, k.tape.trans h.tape, k.output.trans h.output, Nat.le_trans h.size k.size, fun q hq hne => (k.block q (Nat.lt_of_lt_of_le hq h.size) hne).trans (h.block q hq hne)⟩
theorem Touch.of_grown {lo hi : Nat} {w w' : World} {row : Option Nat} (h : w.grownBy w' row) (hr : ∀ k, row = some k → lo ≤ k ∧ k < hi) : Touch lo hi w w' :=
  ⟨h.os, h.tape, h.output, h.size, fun q hq hne => h.block q hq (fun e => by have := hr q e.symm; omega)⟩
theorem Touch.row {lo hi : Nat} {w w' : World} (h : Touch lo hi w w') {g : Nat} {t : TypeId} {n : Nat} {f : Nat → Value} (k : w.rowIs g t n f) (hg : g < lo ∨ hi ≤ g) : w'.rowIs g t n f := k.of_block (h.block g k.lt hg)
theorem Touch.of_below {w w' : World} (lo hi : Nat) (h : Below w.heap.size w w') : Touch lo hi w w' := ⟨h.os, h.tape, h.output, h.size, fun q hq _ => h.block q hq⟩
structure Marked2 (W : World) (g n : Nat) (e : Ending) (w' : World) : Prop where
  val : GivesInt (fun q => 0 ≤ q) e
  touch : Touch g (g + 1 + n) W w'
set_option maxRecDepth 100000 in
set_option maxHeartbeats 400000 in
theorem markInt64SS_any (g c : Nat) (zss : List (List Int)) (k : Int) (w : World) (ho : Own2 w g zss) (hs : Small2 zss) (hk0 : 0 ≤ k) (hk1 : k ≤ 1048576) :
    Calls Try.prog 67 #[.slice (some ⟨g, 0, none⟩) zss.length c, .int .i64 k] w fun e w' => Marked2 w g zss.length e w' ∧ w'.heap.size = w.heap.size := by
  have hl1 : zss.length ≤ 1048576 := hs.1
  have HS := Lib.hid hs
  have HO := Lib.hid ho
  clear hs ho
  go_enter Try.func67, Try.ntmps67
  go_wp2_with fail
  go_loopw [1, 5] (fun q i wr => ∃ (j : Nat) (u : Int), j ≤ zss.length ∧ i = .int .i64 j ∧ q = .int .i64 u ∧ 0 ≤ u ∧ u ≤ 1048576 + j * 1048576 ∧ wr.rowIs g 35 zss.length (fun r => .slice (some ⟨g + 1 + r, 0, none⟩) (nthL zss r).length (nthL zss r).length) ∧
      (∀ r, j ≤ r → r < zss.length → wr.rowIs (g + 1 + r) 2 (nthL zss r).length (fun i => .int .i64 (nth (nthL zss r) i))) ∧ wr.heap.size = w.heap.size ∧ Touch g (g + 1 + zss.length) w wr)
    (fun _ i _ => zss.length - (intOf i).toNat)
  case atStart => exact ⟨0, k, Nat.zero_le _, rfl, rfl, hk0, by omega, HO.out.top, fun r _ hr => HO.out.row r hr, rfl, Touch.refl _ _ _⟩
  case round =>
    obtain ⟨j, u, hj, rfl, rfl, hu0, hu1, htop, hrows, hsz, ht⟩ := hrel
    by_cases hlt : j < zss.length
    · have hc := htop.cell hlt
      have hi0 : (j : Int) < (zss.length : Int) := by omega
      have hlr := HS.out.2 j hlt
      have HOW := Lib.hid (own_of_row (hrows j (Nat.le_refl _) hlt) (by unfold maxLen; omega))
      have HT := Lib.hid htop
      have HR := Lib.hid hrows
      have HZ := Lib.hid hsz
      have HTO := Lib.hid ht
      clear htop hrows hsz ht
      go_wp2_with fail
      refine (markInt64S_any _ (nthL zss j) (g + 1 + j) u wr HOW.out hu0 (by omega) (by omega)).mono ?_
      rintro e w1 ⟨rfl, hown1, hsz1, hgr1⟩
      have t1 : Touch (g + 1 + j) (g + 1 + j + 1) wr w1 := Touch.of_grown hgr1 (fun q hq => by simp [Value.ownBlock] at hq; omega)
      have H1 := Lib.hid (t1.row HT.out (.inl (by omega)))
      have H2 := Lib.hid (show ∀ r, j + 1 ≤ r → r < zss.length → w1.rowIs (g + 1 + r) 2 (nthL zss r).length (fun i => .int .i64 (nth (nthL zss r) i)) from fun r hr hrl => t1.row (HR.out r (by omega) hrl) (.inr (by omega)))
      have H3 := Lib.hid (hsz1.trans HZ.out)
      have H4 := Lib.hid (HTO.out.trans (Touch.of_grown hgr1 (fun q hq => by simp [Value.ownBlock] at hq; omega)))
      clear t1 hown1 hsz1 hgr1
      go_wp2_with fail
      go_roundw
      case rel => exact ⟨j + 1, u + (nthL zss j).length, by omega, by go_num, rfl, by omega, by omega, H1.out, H2.out, H3.out, H4.out⟩
      case measure => simp [intOf]; omega
    · have HT := Lib.hid ht
      have HZ := Lib.hid hsz
      clear hrows htop ht hsz
      go_wp2_with fail
      go_ret
      exact ⟨⟨⟨u, hu0, rfl⟩, HT.out⟩, HZ.out⟩
/-- Slices of slices that a call has made. -/
structure Own (W : World) (base : Nat) (v : Value) (us : List Value) (zss : List (List Int)) : Prop where
  row : W.ownsRow base 35 1 v zss.length us
  rows : RowsOwn W base us zss
theorem Own.step {W W' : World} {base : Nat} {v : Value} {us : List Value} {zss : List (List Int)} (h : Own W base v us zss) (hb : Below W.heap.size W W') : Own W' base v us zss := ⟨row_step h.row hb, h.rows.map fun _ _ k => k.step hb⟩
theorem Own.form {W : World} {base : Nat} {v : Value} {us : List Value} {zss : List (List Int)} (h : Own W base v us zss) : ∃ a c, v = .slice a zss.length c := rowForm h.row
theorem Own.rows2 {W : World} {base : Nat} {v : Value} {us : List Value} {zss : List (List Int)} (h : Own W base v us zss) : ∃ a c, v = .slice a zss.length c ∧ Rows2 W a zss := by
  rcases h.row.2 with ⟨hv, hn⟩ | ⟨g, cap, cur, hv, hb, hg, hnc, hcm, hcs, htake⟩
  · exact ⟨none, 0, by rw [hv, hn], .inl (List.eq_nil_of_length_eq_zero hn)⟩
  · have hr := h.row
    subst hv
    refine ⟨_, _, rfl, .inr ⟨g, 0, rfl, fun i hi => ?_⟩⟩
    have hi' : i < us.length := by rw [h.rows.len]; exact hi
    obtain ⟨a, c, e, hI, _⟩ := (h.rows.own i us[i] zss[i] (by simp [hi']) (by simp [hi])).ints
    rw [nthL_lt hi]
    exact ⟨a, c, by rw [Nat.zero_add, World.ownsRow.cellAt hr i (by omega), List.getElem?_eq_getElem hi', e], hI⟩
theorem Own.touch {lo hi : Nat} {w w' : World} (h : Touch lo hi w w') {base : Nat} {v : Value} {us : List Value} {zss : List (List Int)} (k : Own w base v us zss) (hb : hi ≤ base) : Own w' base v us zss := by
  refine ⟨⟨k.row.1, ?_⟩, k.rows.map fun _ _ q => h.own q hb⟩
  rcases k.row.2 with h2 | ⟨g, cap, cur, hv, hg, hh, r⟩
  · exact .inl h2
  · exact .inr ⟨g, cap, cur, hv, hg, by rw [h.block g (Array.getElem?_eq_some_iff.1 hh).1 (.inr (by omega))]; exact hh, r⟩
/-- Rows that have been marked, from k on. -/
def marked (k : Int) : List (List Int) → List (List Int)
  | [] => []
  | z :: zs => marks k z.length :: marked (k + z.length) zs
def total : List (List Int) → Int
  | [] => 0
  | z :: zs => z.length + total zs
theorem total_snoc (l : List (List Int)) (z : List Int) : total (l ++ [z]) = total l + z.length := by
  induction l with
  | nil => simp [total]
  | cons x l ih => simp only [List.cons_append, total, ih]; omega
theorem total_nonneg (l : List (List Int)) : 0 ≤ total l := by
  induction l with
  | nil => simp [total]
  | cons x l ih => simp only [total]; omega
theorem marked_snoc (k : Int) (l : List (List Int)) (z : List Int) : marked k (l ++ [z]) = marked k l ++ [marks (k + total l) z.length] := by
  induction l generalizing k with
  | nil => simp [marked, total]
  | cons x l ih => simp only [List.cons_append, marked, ih, total]; rw [Int.add_assoc]
theorem marked_len (k : Int) (l : List (List Int)) : (marked k l).length = l.length := by
  induction l generalizing k with
  | nil => rfl
  | cons x l ih => simp [marked, ih]
theorem marked_nth (k : Int) (l : List (List Int)) (r : Nat) (h : r < l.length) : nthL (marked k l) r = marks (k + total (l.take r)) (nthL l r).length := by
  induction l generalizing k r with
  | nil => simp at h
  | cons x l ih =>
    cases r with
    | zero => simp [marked, nthL, total]
    | succ r =>
      have := ih (k + x.length) r (by simpa using h)
      simp only [marked, List.take_succ_cons, total]
      rw [show nthL (marks k x.length :: marked (k + x.length) l) (r + 1) = nthL (marked (k + x.length) l) r by simp [nthL], show nthL (x :: l) (r + 1) = nthL l r by simp [nthL], this, Int.add_assoc]
theorem total_take {l : List (List Int)} {j : Nat} (h : j < l.length) : total (l.take (j + 1)) = total (l.take j) + (nthL l j).length := by
  rw [List.take_succ_eq_append_getElem h, total_snoc, nthL_lt h]
theorem marked_half (k : Int) (l : List (List Int)) {j : Nat} (h : j < l.length) : (marked k (l.take j) ++ l.drop j).set j (marks (k + total (l.take j)) (nthL l j).length) = marked k (l.take (j + 1)) ++ l.drop (j + 1) := by
  have e : (marked k (l.take j)).length = j := by rw [marked_len, List.length_take]; omega
  rw [List.take_succ_eq_append_getElem h, marked_snoc, List.set_append_right _ _ (by omega), e, Nat.sub_self, List.drop_eq_getElem_cons h, List.set_cons_zero, List.append_assoc, nthL_lt h]
  rfl
theorem RowsOwn.setRow {W W' : World} {base : Nat} {us : List Value} {zss : List (List Int)} {j : Nat} (h : RowsOwn W base us zss) {u0 : Value} (hu0 : us[j]? = some u0) {zs' : List Int} (ho : OwnI W' base u0 zs') (hg : W.grownBy W' u0.ownBlock) : RowsOwn W' base us (zss.set j zs') := by
  obtain ⟨hj, huj⟩ := List.getElem?_eq_some_iff.1 hu0
  subst huj
  refine ⟨by simp [h.len], fun i u zs h1 h2 => ?_, h.sep⟩
  by_cases e : i = j
  · subst e
    rw [List.getElem?_set_self (by rw [← h.len]; exact hj)] at h2
    rw [List.getElem?_eq_getElem hj] at h1
    cases h1; cases h2
    exact ho
  · rw [List.getElem?_set_ne (fun k => e k.symm)] at h2
    have hk := h.own i u zs h1 h2
    refine World.ownsRow.kept hk hg ?_
    cases hb : u.ownBlock with
    | none => exact .inl rfl
    | some b =>
      refine .inr fun e2 => ?_
      obtain ⟨hi, hu⟩ := List.getElem?_eq_some_iff.1 h1
      have hs := List.pairwise_iff_getElem.1 h.sep
      rcases Nat.lt_or_gt_of_ne e with hlt | hlt
      · have := hs i j hi hj hlt b b (by rw [hu]; exact hb) e2.symm
        omega
      · have := hs j i hj hi hlt b b e2.symm (by rw [hu]; exact hb)
        omega
/-- Blocks of other types than numbers stay. -/
def KeepsT (W W' : World) : Prop := ∀ (b : Nat) (vs : Array Value) (t : TypeId) (fr : Nat × Nat), W.heap[b]? = some (Obj.cells vs t fr) → t ≠ 2 → W'.heap[b]? = some (Obj.cells vs t fr)
theorem KeepsT.refl (W : World) : KeepsT W W := fun _ _ _ _ h _ => h
theorem KeepsT.trans {a b c : World} (h : KeepsT a b) (k : KeepsT b c) : KeepsT a c := fun _ _ _ _ h1 h2 => k _ _ _ _ (h _ _ _ _ h1 h2) h2
theorem KeepsT.of_below {a b : World} (h : Below a.heap.size a b) : KeepsT a b := fun _ _ _ _ h1 _ => (h.block _ (Array.getElem?_eq_some_iff.1 h1).1).trans h1
theorem KeepsT.of_grown {a b : World} {base : Nat} {v : Value} {zs : List Int} (h : OwnI a base v zs) (hg : a.grownBy b v.ownBlock) : KeepsT a b := fun q vs t fr h1 h2 => by
  refine (hg.block q (Array.getElem?_eq_some_iff.1 h1).1 (fun e => ?_)).trans h1
  rcases h.2 with ⟨rfl, _⟩ | ⟨g, cap, cur, rfl, _, hgg, _⟩
  · simp [Value.ownBlock] at e
  · simp [Value.ownBlock] at e
    subst e
    rw [hgg] at h1
    cases h1
    exact h2 rfl
/-- What marks such slices. -/
structure MarkedO (W : World) (base : Nat) (v : Value) (us : List Value) (zss : List (List Int)) (k : Int) (e : Ending) (w' : World) : Prop where
  val : e = .returned (.int .i64 (k + total zss))
  own : Own w' base v us (marked k zss)
  below : Below base W w'
  size : W.heap.size ≤ w'.heap.size
  keep : KeepsT W w'
set_option maxRecDepth 100000 in
set_option maxHeartbeats 600000 in
theorem markSSO_any (v : Value) (us : List Value) (zss : List (List Int)) (base : Nat) (k : Int) (w : World) (ho : Own w base v us zss) (hs : Small2 zss) (hk0 : 0 ≤ k) (hk1 : k ≤ 1048576) (hbw : base ≤ w.heap.size) :
    Calls Try.prog 67 #[v, .int .i64 k] w (MarkedO w base v us zss k) := by
  obtain ⟨a, c, rfl⟩ := ho.form
  have hl1 : zss.length ≤ 1048576 := hs.1
  have HS := Lib.hid hs
  have HO := Lib.hid ho
  clear hs ho
  go_enter Try.func67, Try.ntmps67
  go_wp2_with fail
  go_loopw [1, 5] (fun q i wr => ∃ (j : Nat) (u : Int), j ≤ zss.length ∧ i = .int .i64 j ∧ q = .int .i64 u ∧ u = k + total (zss.take j) ∧ 0 ≤ u ∧ u ≤ 1048576 + j * 1048576 ∧ wr.ownsRow base 35 1 (.slice a zss.length c) zss.length us ∧ RowsOwn wr base us (marked k (zss.take j) ++ zss.drop j) ∧ Below base w wr ∧ KeepsT w wr)
    (fun _ i _ => zss.length - (intOf i).toNat)
  case atStart => exact ⟨0, k, Nat.zero_le _, rfl, rfl, by simp [total], hk0, by omega, HO.out.row, by simpa [marked] using HO.out.rows, Below.refl _ _, KeepsT.refl _⟩
  case round =>
    obtain ⟨j, u, hj, rfl, rfl, hu, hu0, hu1, hrow, hrows, hbel, hkt⟩ := hrel
    have HKT := Lib.hid hkt
    clear hkt
    have HU := Lib.hid hu
    have HR := Lib.hid hrow
    have HRS := Lib.hid hrows
    have HB := Lib.hid hbel
    clear hu
    by_cases hlt : j < zss.length
    · have hju : j < us.length := by
        have := hrows.len
        simp only [List.length_append, marked_len, List.length_take, List.length_drop] at this
        omega
      obtain ⟨g, rfl, hc⟩ := row_cell hrow hlt
      obtain ⟨uj, huj⟩ : ∃ uj, us[j]? = some uj := ⟨us[j], List.getElem?_eq_getElem hju⟩
      rw [huj] at hc
      have hown : OwnI wr base uj (nthL zss j) := hrows.own j uj _ huj (by
        rw [List.getElem?_append_right (by rw [marked_len, List.length_take]; exact Nat.min_le_left _ _), marked_len, nthL_lt hlt]
        simp [Nat.min_eq_left (Nat.le_of_lt hlt), hlt])
      obtain ⟨ua, uc, rfl⟩ := hown.form
      have hj0 : (j : Int) < (zss.length : Int) := by omega
      have hlr := HS.out.2 j hlt
      have HT := Lib.hid (total_take hlt)
      have HH := Lib.hid (marked_half k zss hlt)
      have HUJ := Lib.hid huj
      have HOW := Lib.hid hown
      clear hju huj
      clear hown hrow hrows hbel
      go_wp2_with fail
      refine (markInt64S_any _ (nthL zss j) base u wr HOW.out hu0 (by omega) (by omega)).mono ?_
      rintro e w1 ⟨rfl, hown1, hsz1, hgr1⟩
      have H1 := Lib.hid (show w1.ownsRow base 35 1 (.slice (some ⟨g, 0, none⟩) zss.length c) zss.length us from HR.out.kept hgr1 (rows_apart HR.out HOW.out (by decide)))
      have H2 := Lib.hid (show RowsOwn w1 base us (marked k (zss.take (j + 1)) ++ zss.drop (j + 1)) from by
        rw [← HH.out, ← HU.out]
        exact HRS.out.setRow HUJ.out hown1 hgr1)
      have H3 := Lib.hid (show Below base w w1 from HB.out.grown hgr1 (Nat.le_trans hbw HB.out.size) (fun q hq => (HOW.out.lt hq).1))
      have H4 := Lib.hid (HKT.out.trans (KeepsT.of_grown HOW.out hgr1))
      have HU2 := Lib.hid (show u + (nthL zss j).length = k + total (zss.take (j + 1)) by rw [HT.out, HU.out]; omega)
      clear hown1 hsz1 hgr1
      go_wp2_with fail
      go_roundw
      case rel => exact ⟨j + 1, u + (nthL zss j).length, by omega, by go_num, rfl, HU2.out, by omega, by omega, H1.out, H2.out, H3.out, H4.out⟩
      case measure => simp [intOf]; omega
    · have HJ := Lib.hid (show j = zss.length by omega)
      clear hrow hrows hbel
      go_wp2_with fail
      go_ret
      have h1 := HRS.out
      rw [HJ.out, List.take_length, List.drop_length, List.append_nil] at h1
      exact ⟨by rw [HU.out, HJ.out, List.take_length]; rfl, ⟨by rw [marked_len]; exact HR.out, h1⟩, HB.out, HB.out.size, HKT.out⟩
set_option maxRecDepth 100000 in
set_option maxHeartbeats 600000 in
theorem heldSSO_any (a : Option Addr) (c : Nat) (zss : List (List Int)) (k : Int) (w : World) (h : Rows2 w a (marked k zss)) (hs : Small2 zss) (hk0 : 0 ≤ k) (hk1 : k ≤ 1048576) :
    Calls Try.prog 68 #[.slice a zss.length c, .int .i64 k] w fun e w' => e = .returned (.int .i64 (k + total zss)) ∧ w = w' := by
  have hl1 : zss.length ≤ 1048576 := hs.1
  have HS := Lib.hid hs
  clear hs
  go_enter Try.func68, Try.ntmps68
  go_wp2_with fail
  go_loop [1, 5] (fun q i => ∃ (j : Nat) (u : Int), j ≤ zss.length ∧ i = .int .i64 j ∧ q = .int .i64 u ∧ u = k + total (zss.take j) ∧ 0 ≤ u ∧ u ≤ 1048576 + j * 1048576)
    (fun _ i => zss.length - (intOf i).toNat)
  case atStart => exact ⟨0, k, Nat.zero_le _, rfl, rfl, by simp [total], hk0, by omega⟩
  case round =>
    obtain ⟨j, u, hj, rfl, rfl, hu, hu0, hu1⟩ := hrel
    have HU := Lib.hid hu
    by_cases hlt : j < zss.length
    · rcases h with h | ⟨b, o, rfl, hc⟩
      · have := congrArg List.length h
        rw [marked_len] at this
        have h0 : zss.length = 0 := this
        omega
      obtain ⟨ai, ci, hcell, hints⟩ := hc j (by rw [marked_len]; exact hlt)
      rw [marked_nth k zss j hlt, ← hu] at hints hcell
      rw [marks_len] at hcell
      have HI := Lib.hid hints
      have hlr := HS.out.2 j hlt
      have hj0 : (j : Int) < (zss.length : Int) := by omega
      have HT := Lib.hid (total_take hlt)
      clear hc hints hu
      go_wp2_with fail
      refine (heldInt64S_any ai _ ci u w HI.out hu0 (by omega) (by omega)).mono ?_
      rintro e w1 ⟨rfl, rfl⟩
      have HU2 := Lib.hid (show u + (nthL zss j).length = k + total (zss.take (j + 1)) by rw [HT.out, HU.out]; omega)
      go_wp2_with fail
      go_round
      case rel => exact ⟨j + 1, u + (nthL zss j).length, by omega, by go_num, rfl, HU2.out, by omega, by omega⟩
      case measure => simp [intOf]; omega
    · have HJ := Lib.hid (show j = zss.length by omega)
      clear hu
      go_wp2_with fail
      go_ret
      exact ⟨by rw [HU.out, HJ.out, List.take_length]; rfl, rfl⟩
/-- A block of known cells. -/
def Boxes (W : World) (B : Nat) (t : TypeId) (vs : Array Value) : Prop := W.heap[B]? = some (.cells vs t (0, 0))
theorem Boxes.lt {W : World} {B : Nat} {t : TypeId} {vs : Array Value} (h : Boxes W B t vs) : B < W.heap.size := (Array.getElem?_eq_some_iff.1 h).1
theorem Boxes.step {W W' : World} {B : Nat} {t : TypeId} {vs : Array Value} (h : Boxes W B t vs) (hb : Below W.heap.size W W') : Boxes W' B t vs := (hb.block B h.lt).trans h
theorem Boxes.cell {W : World} {B : Nat} {t : TypeId} {vs : Array Value} (h : Boxes W B t vs) (i : Nat) : W.cell? ⟨B, i, none⟩ = vs[i]? := by simp [World.cell?, show W.heap[B]? = _ from h]
theorem Boxes.c0 {W : World} {B : Nat} {t : TypeId} {v0 v1 : Value} (h : Boxes W B t #[v0, v1]) : W.cell? ⟨B, 0, none⟩ = some v0 := by rw [h.cell]; rfl
theorem Boxes.c1 {W : World} {B : Nat} {t : TypeId} {v0 v1 : Value} (h : Boxes W B t #[v0, v1]) : W.cell? ⟨B, 1, none⟩ = some v1 := by rw [h.cell]; rfl
theorem Ints_of_own {W : World} {base n c : Nat} {a : Option Addr} {zs : List Int} (h : OwnI W base (.slice a n c) zs) : Ints W a zs := by
  obtain ⟨a', c', e, hi, _⟩ := h.ints
  cases e
  exact hi
theorem Boxes.keeps {W W' : World} {B : Nat} {t : TypeId} {vs : Array Value} (h : Boxes W B t vs) (hk : KeepsT W W') (ht : t ≠ 2) : Boxes W' B t vs := hk _ _ _ _ h ht
theorem Boxes.touch {lo hi : Nat} {W W' : World} {B : Nat} {t : TypeId} {vs : Array Value} (h : Boxes W B t vs) (ht : Touch lo hi W W') (hB : hi ≤ B) : Boxes W' B t vs := (ht.block B h.lt (.inr hB)).trans h
theorem Own.rows2v {W : World} {base n c : Nat} {a : Option Addr} {us : List Value} {zss : List (List Int)} (h : Own W base (.slice a n c) us zss) : Rows2 W a zss := by
  obtain ⟨a', c', e, hr⟩ := h.rows2
  cases e
  exact hr
theorem Own.rows2m {W : World} {base n c : Nat} {a : Option Addr} {us : List Value} {zss : List (List Int)} {k : Int} (h : Own W base (.slice a n c) us (marked k zss)) : Rows2 W a (marked k zss) := h.rows2v
end Go.Proofs.Ytnebkhelobpkpaa

/- Of the model's reduction: rows of numbers in blocks of their own, exchanged and changed in place; l03Times, l03Add. -/
import Derived.Test.YtnebkhelobpkpaaRd3
import Derived.Test.YtnebkhelobpkpaaCp3
namespace Go.Proofs.Ytnebkhelobpkpaa
open Go.RowKit Go.Deep Go.Joins
set_option linter.unusedVariables false

/-- n numbers given by a function. -/
def rowOf (n : Nat) (r : Nat → Int) : List Int := (List.range n).map r
theorem rowOf_len (n : Nat) (r : Nat → Int) : (rowOf n r).length = n := by simp [rowOf]
theorem rowOf_at (n : Nat) (r : Nat → Int) {j : Nat} (h : j < n) : nth (rowOf n r) j = r j := by
  rw [nth_lt (by rw [rowOf_len]; exact h)]; simp [rowOf]
theorem rowOf_ext {n : Nat} {r s : Nat → Int} (h : ∀ j, j < n → r j = s j) : rowOf n r = rowOf n s := List.map_congr_left fun j hj => h j (List.mem_range.1 hj)
theorem rowOf_tab (m n : Nat) (f : Nat → Nat → Int) {i : Nat} (h : i < m) : nthL (tab m n f) i = rowOf n (f i) := tab_row m n f h
theorem vals_at (zs : List Int) {j : Nat} (h : j < zs.length) : (vals zs)[j]? = some (.int .i64 (nth zs j)) := by
  rw [nth_lt h]; simp [vals, h]
theorem vals_set (zs : List Int) (j : Nat) (y : Int) : (vals zs).set j (.int .i64 y) = vals (zs.set j y) := by simp [vals, List.map_set]
/-- A row changed up to an element. -/
def upTo (k : Nat) (h : Nat → Int → Int) (r : Nat → Int) : Nat → Int := fun j => if j < k then h j (r j) else r j
theorem upTo_zero (h : Nat → Int → Int) (r : Nat → Int) : upTo 0 h r = r := by funext j; unfold upTo; rw [if_neg (by omega)]
theorem upTo_step (n k : Nat) (h : Nat → Int → Int) (r : Nat → Int) : (rowOf n (upTo k h r)).set k (h k (r k)) = rowOf n (upTo (k + 1) h r) := by
  refine ext_nth (by simp [rowOf]) fun i hi => ?_
  have hi' : i < n := by simpa [rowOf] using hi
  rw [rowOf_at _ _ hi', nth_lt hi]
  by_cases e : i = k
  · subst e
    simp [upTo]
  · rw [List.getElem_set_ne (fun q => e q.symm)]
    simp only [rowOf, List.getElem_map, List.getElem_range, upTo]
    by_cases h2 : i < k
    · rw [if_pos h2, if_pos (by omega)]
    · rw [if_neg h2, if_neg (by omega)]
theorem upTo_all (n : Nat) (h : Nat → Int → Int) (r : Nat → Int) : rowOf n (upTo n h r) = rowOf n (fun j => h j (r j)) := rowOf_ext fun j hj => by unfold upTo; rw [if_pos hj]
/-- AN ELEMENT OF A ROW. -/
theorem OwnI.at {W : World} {base g n cap : Nat} {r : Nat → Int} (h : OwnI W base (.slice (some ⟨g, 0, none⟩) n cap) (rowOf n r)) {j : Nat} (hj : j < n) : W.cell? ⟨g, j, none⟩ = some (.int .i64 (r j)) := by
  have h' : W.ownsRow base 2 1 (.slice (some ⟨g, 0, none⟩) n cap) (rowOf n r).length (vals (rowOf n r)) := h
  rw [rowOf_len] at h'
  rw [World.ownsRow.cellAt h' j (by omega), vals_at _ (by rw [rowOf_len]; exact hj), rowOf_at _ _ hj]
theorem OwnI.fz {W : World} {base g n cap : Nat} {r : Nat → Int} (h : OwnI W base (.slice (some ⟨g, 0, none⟩) n cap) (rowOf n r)) (j : Nat) : W.frozen? ⟨g, j, none⟩ = false := by
  have h' : W.ownsRow base 2 1 (.slice (some ⟨g, 0, none⟩) n cap) (rowOf n r).length (vals (rowOf n r)) := h
  rw [rowOf_len] at h'
  exact World.ownsRow.frozenAt h' j
theorem OwnI.gl {W : World} {base g n cap : Nat} {zs : List Int} (h : OwnI W base (.slice (some ⟨g, 0, none⟩) n cap) zs) : base ≤ g ∧ g < W.heap.size := row_lt h rfl
theorem OwnI.stored1 {W : World} {base g n cap k : Nat} {r : Nat → Int} {h : Nat → Int → Int} (ho : OwnI W base (.slice (some ⟨g, 0, none⟩) n cap) (rowOf n (upTo k h r))) :
    OwnI (W.setCell ⟨g, k, none⟩ (.int .i64 (h k (r k)))) base (.slice (some ⟨g, 0, none⟩) n cap) (rowOf n (upTo (k + 1) h r)) ∧ W.grownBy (W.setCell ⟨g, k, none⟩ (.int .i64 (h k (r k)))) (some g) := by
  have h' : W.ownsRow base 2 1 (.slice (some ⟨g, 0, none⟩) n cap) (rowOf n (upTo k h r)).length (vals (rowOf n (upTo k h r))) := ho
  rw [rowOf_len] at h'
  obtain ⟨h1, h2⟩ := World.ownsRow.stored h' k (.int .i64 (h k (r k)))
  rw [vals_set, upTo_step] at h1
  refine ⟨?_, h2⟩
  unfold OwnI
  rw [rowOf_len]
  exact h1

set_option maxRecDepth 100000 in
set_option maxHeartbeats 1000000 in
theorem l03Times_any (p c : Int) (base g n cap : Nat) (r : Nat → Int) (w : World) (ho : OwnI w base (.slice (some ⟨g, 0, none⟩) n cap) (rowOf n r)) (hp : 2 ≤ p) (hp1 : p ≤ 31) (hr : ∀ j, j < n → Elem p (r j)) (hc : Elem p c) (hn : n ≤ 1000) :
    Calls Try.prog 158 #[.int .i64 p, .slice (some ⟨g, 0, none⟩) n cap, .int .i64 c] w fun e w' => e = .returned (.tuple #[]) ∧ OwnI w' base (.slice (some ⟨g, 0, none⟩) n cap) (rowOf n (fun j => r j * c % p)) ∧ w.grownBy w' (some g) := by
  have HO := Lib.hid ho
  have HR := Lib.hid hr
  have HC := Lib.hid hc
  have hp0 : p ≠ 0 := by omega
  clear ho hr hc
  go_enter Try.func158, Try.ntmps158
  go_wp2_with fail
  go_loopw [6] (fun q wr => ∃ k : Nat, k ≤ n ∧ q = .int .i64 k ∧ OwnI wr base (.slice (some ⟨g, 0, none⟩) n cap) (rowOf n (upTo k (fun _ x => x * c % p) r)) ∧ w.grownBy wr (some g))
    (fun q _ => n - (intOf q).toNat)
  case atStart => exact ⟨0, Nat.zero_le _, rfl, by rw [upTo_zero]; exact HO.out, World.grownBy.refl _ _⟩
  case round =>
    obtain ⟨k, hk, rfl, ho, hg⟩ := hrel
    have HOK := Lib.hid ho
    have HG := Lib.hid hg
    clear ho hg
    by_cases hlt : k < n
    · have hk0 : (k : Int) < (n : Int) := by omega
      have d := HOK.out.at hlt
      have hu : upTo k (fun _ x => x * c % p) r k = r k := by unfold upTo; rw [if_neg (by omega)]
      rw [hu] at d
      have f := HOK.out.fz k
      have gl := HOK.out.gl.2
      obtain ⟨m0, m1⟩ := mul_bounds hp1 (HR.out k hlt) HC.out
      have HS := Lib.hid HOK.out.stored1
      obtain ⟨x, hx⟩ : ∃ x, r k = x := ⟨_, rfl⟩
      rw [hx] at d m0 m1 HS
      clear hu hx
      go_wp2_with fail
      go_roundw
      case rel => exact ⟨k + 1, by omega, by go_num, HS.out.1, grown_trans HG.out HS.out.2⟩
      case measure => simp [intOf]; omega
    · have hk0 : ¬ (k : Int) < (n : Int) := by omega
      have hE : k = n := by omega
      subst hE
      go_wp2_with fail
      go_end0
      exact ⟨rfl, by have := HOK.out; rw [upTo_all] at this; exact this, HG.out⟩

set_option maxRecDepth 100000 in
set_option maxHeartbeats 1000000 in
theorem l03Add_any (p c : Int) (base g n cap q2 cap2 : Nat) (r s : Nat → Int) (w : World) (ho : OwnI w base (.slice (some ⟨g, 0, none⟩) n cap) (rowOf n r)) (hs : ∀ j, j < n → w.cell? ⟨q2, j, none⟩ = some (.int .i64 (s j))) (hne : q2 ≠ g) (hp : 2 ≤ p) (hp1 : p ≤ 31) (hr : ∀ j, j < n → Elem p (r j)) (hse : ∀ j, j < n → Elem p (s j)) (hc : Elem p c) (hn : n ≤ 1000) :
    Calls Try.prog 160 #[.int .i64 p, .slice (some ⟨g, 0, none⟩) n cap, .slice (some ⟨q2, 0, none⟩) n cap2, .int .i64 c] w fun e w' => e = .returned (.tuple #[]) ∧ OwnI w' base (.slice (some ⟨g, 0, none⟩) n cap) (rowOf n (fun j => (r j + s j * c) % p)) ∧ w.grownBy w' (some g) := by
  have HO := Lib.hid ho
  have HR := Lib.hid hr
  have HSE := Lib.hid hse
  have HSC := Lib.hid hs
  have HC := Lib.hid hc
  have hp0 : p ≠ 0 := by omega
  clear ho hr hc hs hse
  go_enter Try.func160, Try.ntmps160
  go_wp2_with fail
  go_loopw [8] (fun q wr => ∃ k : Nat, k ≤ n ∧ q = .int .i64 k ∧ OwnI wr base (.slice (some ⟨g, 0, none⟩) n cap) (rowOf n (upTo k (fun j x => (x + s j * c) % p) r)) ∧ w.grownBy wr (some g))
    (fun q _ => n - (intOf q).toNat)
  case atStart => exact ⟨0, Nat.zero_le _, rfl, by rw [upTo_zero]; exact HO.out, World.grownBy.refl _ _⟩
  case round =>
    obtain ⟨k, hk, rfl, ho, hg⟩ := hrel
    have HOK := Lib.hid ho
    have HG := Lib.hid hg
    clear ho hg
    by_cases hlt : k < n
    · have hk0 : (k : Int) < (n : Int) := by omega
      have d := HOK.out.at hlt
      have hu : upTo k (fun j x => (x + s j * c) % p) r k = r k := by unfold upTo; rw [if_neg (by omega)]
      rw [hu] at d
      have f := HOK.out.fz k
      have gl := HOK.out.gl.2
      have hl2 := World.block_lt_of_cell? _ _ (HSC.out k hlt)
      simp only at hl2
      have ds : wr.cell? ⟨q2, k, none⟩ = some (.int .i64 (s k)) := by
        have hb := HG.out.block q2 hl2 (by simpa using fun e => hne e)
        have h0 := HSC.out k hlt
        unfold World.cell? at h0 ⊢
        rw [hb]
        exact h0
      have gl2 : q2 < wr.heap.size := Nat.lt_of_lt_of_le hl2 HG.out.size
      obtain ⟨m0, m1⟩ := mul_bounds hp1 (HSE.out k hlt) HC.out
      obtain ⟨a0, a1⟩ := HR.out k hlt
      have HS := Lib.hid (OwnI.step HOK.out (drew_step wr)).stored1
      obtain ⟨x, hx⟩ : ∃ x, r k = x := ⟨_, rfl⟩
      obtain ⟨y, hy⟩ : ∃ y, s k = y := ⟨_, rfl⟩
      simp only [hx, hy] at d ds m0 m1 HS a0 a1
      clear hu hx hy hl2
      go_wp2_with fail
      go_region
      all_goals (
        go_wp2_with fail
        go_roundw
        case rel => exact ⟨k + 1, by omega, by go_num, HS.out.1, grown_trans HG.out (grown_trans (grown_below (drew_step wr)) HS.out.2)⟩
        case measure => simp [intOf]; omega)
    · have hk0 : ¬ (k : Int) < (n : Int) := by omega
      have hE : k = n := by omega
      subst hE
      go_wp2_with fail
      go_end0
      exact ⟨rfl, by have := HOK.out; rw [upTo_all] at this; exact this, HG.out⟩

/-- ROWS OF NUMBERS, each in a block of its own, in any order. -/
structure OwnM (W : World) (base : Nat) (va : Option Addr) (m vc : Nat) (us : List Value) (n : Nat) (f : Nat → Nat → Int) : Prop where
  row : W.ownsRow base 35 1 (.slice va m vc) m us
  len : us.length = m
  own : ∀ (i : Nat) (u : Value), us[i]? = some u → OwnI W base u (rowOf n (f i))
  dis : ∀ (i j : Nat) (u u' : Value) (b : Nat), i ≠ j → us[i]? = some u → us[j]? = some u' → u.ownBlock = some b → u'.ownBlock ≠ some b
section
variable {W W' : World} {base m vc n : Nat} {va : Option Addr} {us : List Value} {f g : Nat → Nat → Int}
theorem OwnM.step (h : OwnM W base va m vc us n f) (hb : Below W.heap.size W W') : OwnM W' base va m vc us n f := ⟨row_step h.row hb, h.len, fun i u hu => (h.own i u hu).step hb, h.dis⟩
theorem OwnM.keepT (h : OwnM W base va m vc us n f) (h1 : KeepT 35 W W') (h2 : KeepT 2 W W') : OwnM W' base va m vc us n f := ⟨row_keepT h.row h1, h.len, fun i u hu => row_keepT (h.own i u hu) h2, h.dis⟩
theorem OwnM.congr (h : OwnM W base va m vc us n f) (e : ∀ i, i < m → ∀ j, j < n → f i j = g i j) : OwnM W base va m vc us n g := ⟨h.row, h.len, fun i u hu => by
  have hi : i < m := by rw [← h.len]; exact (List.getElem?_eq_some_iff.1 hu).1
  have := h.own i u hu
  rw [rowOf_ext (e i hi)] at this
  exact this, h.dis⟩
theorem OwnM.of {z : List (List Int)} (h : Own W base (.slice va z.length vc) us z) (hz : ∀ r, r < z.length → (nthL z r).length = n) : OwnM W base va z.length vc us n (fn z) := by
  have hl : us.length = z.length := h.rows.len
  refine ⟨h.row, hl, fun i u hu => ?_, fun i j u u' b hij hu hu' hb => ?_⟩
  · have hi : i < z.length := by rw [← hl]; exact (List.getElem?_eq_some_iff.1 hu).1
    have := h.rows.own i u (nthL z i) hu (by rw [nthL_lt hi]; simp [hi])
    have e : nthL z i = rowOf n (fn z i) := by
      refine ext_nth (by rw [rowOf_len]; exact hz i hi) fun j hj => ?_
      rw [rowOf_at _ _ (by rw [← hz i hi]; exact hj)]; rfl
    rw [e] at this
    exact this
  · have hi := (List.getElem?_eq_some_iff.1 hu).1
    have hj := (List.getElem?_eq_some_iff.1 hu').1
    have e1 : us[i] = u := by rw [List.getElem?_eq_getElem hi] at hu; exact Option.some.inj hu
    have e2 : us[j] = u' := by rw [List.getElem?_eq_getElem hj] at hu'; exact Option.some.inj hu'
    have hp := List.pairwise_iff_getElem.1 h.rows.sep
    intro hb'
    rcases Nat.lt_or_gt_of_ne hij with q | q
    · have := hp i j hi hj q b b (by rw [e1]; exact hb) (by rw [e2]; exact hb'); omega
    · have := hp j i hj hi q b b (by rw [e2]; exact hb') (by rw [e1]; exact hb); omega
/-- A row of it. -/
theorem OwnM.at (h : OwnM W base va m vc us n f) {r : Nat} (hr : r < m) (hn : 0 < n) : ∃ b g cap, va = some ⟨b, 0, none⟩ ∧ us[r]? = some (.slice (some ⟨g, 0, none⟩) n cap) ∧ base ≤ b ∧ b < W.heap.size ∧ W.cell? ⟨b, r, none⟩ = some (.slice (some ⟨g, 0, none⟩) n cap) ∧ (∀ j, W.frozen? ⟨b, j, none⟩ = false) ∧ OwnI W base (.slice (some ⟨g, 0, none⟩) n cap) (rowOf n (f r)) ∧ ∃ vs, Boxes W b 35 vs := by
  have hu : r < us.length := by rw [h.len]; exact hr
  have ho := h.own r us[r] (by simp [hu])
  obtain ⟨g, cap, e⟩ : ∃ g cap, us[r] = .slice (some ⟨g, 0, none⟩) n cap := by
    rcases ho.2 with ⟨_, hv⟩ | ⟨g, cap, cur, hv, _⟩
    · rw [rowOf_len] at hv; omega
    · rw [rowOf_len] at hv; exact ⟨g, cap, hv⟩
  rw [e] at ho
  have hrow := h.row
  rcases h.row.2 with ⟨_, hv⟩ | ⟨b, c, cur, hv, hb, hh, _⟩
  · omega
  cases hv
  refine ⟨b, g, cap, rfl, by rw [List.getElem?_eq_getElem hu, e], hb, (row_lt hrow rfl).2, ?_, World.ownsRow.frozenAt hrow, ho, cur, hh⟩
  rw [World.ownsRow.cellAt hrow r (by omega), List.getElem?_eq_getElem hu, e]
/-- A row has been changed. -/
theorem OwnM.changed {i gi cap : Nat} {r : Nat → Int} (h : OwnM W base va m vc us n f) (hu : us[i]? = some (.slice (some ⟨gi, 0, none⟩) n cap)) (ho : OwnI W' base (.slice (some ⟨gi, 0, none⟩) n cap) (rowOf n r)) (hg : W.grownBy W' (some gi)) :
    OwnM W' base va m vc us n (fun c => if c = i then r else f c) := by
  have hoi : OwnI W base (.slice (some ⟨gi, 0, none⟩) n cap) (rowOf n (f i)) := h.own i _ hu
  have hk : KeepT 35 W W' := KeepT.grown (v := .slice (some ⟨gi, 0, none⟩) n cap) hoi (by simpa [Value.ownBlock] using hg) (by decide)
  refine ⟨row_keepT h.row hk, h.len, fun c u hc => ?_, h.dis⟩
  by_cases e : c = i
  · subst e
    rw [hu] at hc
    cases hc
    simpa using ho
  · have h1 := h.own c u hc
    simp only [if_neg e]
    have hd := h.dis i c _ u gi (fun q => e q.symm) hu hc rfl
    refine ⟨h1.1, ?_⟩
    rcases h1.2 with h2 | ⟨g2, cap2, cur, hv, hg2, hh, rr⟩
    · exact .inl h2
    · have hne : g2 ≠ gi := fun q => hd (by rw [hv, q]; rfl)
      exact .inr ⟨g2, cap2, cur, hv, hg2, by rw [hg.block g2 (Array.getElem?_eq_some_iff.1 hh).1 (by simpa using hne)]; exact hh, rr⟩
/-- Two rows exchanged. -/
theorem OwnM.swap {b q s : Nat} {uq us' : Value} (h : OwnM W base (some ⟨b, 0, none⟩) m vc us n f) (hq : us[q]? = some uq) (hs : us[s]? = some us') :
    OwnM ((W.setCell ⟨b, s, none⟩ uq).setCell ⟨b, q, none⟩ us') base (some ⟨b, 0, none⟩) m vc ((us.set s uq).set q us') n (swp f q s) := by
  have hql := (List.getElem?_eq_some_iff.1 hq).1
  have hsl := (List.getElem?_eq_some_iff.1 hs).1
  have r1 := (World.ownsRow.stored h.row s uq).1
  have r2 := (World.ownsRow.stored r1 q us').1
  obtain ⟨cur, hb0⟩ : ∃ cur, Boxes W b 35 cur := by
    rcases h.row.2 with ⟨hv, _⟩ | ⟨b', c, cur, hv, _, hh, _⟩
    · cases hv
    · cases hv; exact ⟨cur, hh⟩
  obtain ⟨cur1, hb1⟩ : ∃ cur, Boxes (W.setCell ⟨b, s, none⟩ uq) b 35 cur := by
    rcases r1.2 with ⟨hv, _⟩ | ⟨b', c, cur, hv, _, hh, _⟩
    · cases hv
    · cases hv; exact ⟨cur, hh⟩
  have hk : KeepT 2 W ((W.setCell ⟨b, s, none⟩ uq).setCell ⟨b, q, none⟩ us') := (KeepT.set hb0 (by decide) _ _).trans (KeepT.set hb1 (by decide) _ _)
  have hget : ∀ c u, ((us.set s uq).set q us')[c]? = some u → ∃ c', us[c']? = some u ∧ swp f q s c = f c' ∧ c' = if c = q then s else if c = s then q else c := by
    intro c u hc
    unfold swp
    by_cases e1 : c = q
    · subst e1
      rw [List.getElem?_set_self (by simpa using hql)] at hc
      cases hc
      exact ⟨s, hs, by rw [if_pos rfl], by rw [if_pos rfl]⟩
    · rw [List.getElem?_set_ne (fun z => e1 z.symm)] at hc
      by_cases e2 : c = s
      · subst e2
        rw [List.getElem?_set_self hsl] at hc
        cases hc
        exact ⟨q, hq, by rw [if_neg e1, if_pos rfl], by rw [if_neg e1, if_pos rfl]⟩
      · rw [List.getElem?_set_ne (fun z => e2 z.symm)] at hc
        exact ⟨c, hc, by rw [if_neg e1, if_neg e2], by rw [if_neg e1, if_neg e2]⟩
  refine ⟨r2, by simp [h.len], fun c u hc => ?_, fun i j u u' bb hij hu hu' hb => ?_⟩
  · obtain ⟨c', h1, h2, -⟩ := hget c u hc
    rw [h2]
    exact row_keepT (h.own c' u h1) hk
  · obtain ⟨i', h1, -, e1⟩ := hget i u hu
    obtain ⟨j', h2, -, e2⟩ := hget j u' hu'
    refine h.dis i' j' u u' bb (fun e => ?_) h1 h2 hb
    rw [e1, e2] at e
    clear e1 e2 hget hu hu' hb h1 h2
    repeat' split at e
    all_goals omega
end
end Go.Proofs.Ytnebkhelobpkpaa

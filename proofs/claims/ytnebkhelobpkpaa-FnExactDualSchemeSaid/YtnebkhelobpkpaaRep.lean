/- Copies of elements of several cells; slices.Repeat of one element of a field. -/
import Derived.Test.YtnebkhelobpkpaaMul
namespace Go.Proofs.Ytnebkhelobpkpaa
open Go.RowKit Go.Deep
set_option linter.unusedVariables false

/-- Copied cells, for elements of any size. -/
theorem run_copy_many {P : Program} (w : World) (dT sT ty elem : TypeId) (i : TypeInfo) (size g o dLen dCap sLen sCap : Nat) (dp sp : Option Addr) (cur : List Value) (t : TypeId) (cs : List Value) (m : Nat) (hm : Nat.min sLen dLen = m)
    (hu : P.underlying dT = some (.slice elem)) (hi : P.info? elem = some i) (hs : i.size = size)
    (hg : w.heap[g]? = some (.cells cur.toArray t (0, 0))) (hn : cs.length = m * size)
    (hpos : 0 < cs.length → dp = some ⟨g, o, none⟩ ∧ ∃ ad, sp = some ad ∧ ∀ j v, cs[j]? = some v → w.cell? (ad.add j) = some v)
    (hfit : o + cs.length ≤ cur.length) (h1 : ∀ v ∈ cs, v.oneCell' = true) :
    ∃ w', (Builtin.copy_ #[dT, sT] ty #[.slice dp dLen dCap, .slice sp sLen sCap]).run P w = .ok (goInt m) w' ∧ w'.heap[g]? = some (.cells (splice cur o cs).toArray t (0, 0)) ∧ (∀ B w0, Below B w0 w → B ≤ g → Below B w0 w') := by
  subst hs
  subst hm
  by_cases h0 : cs.length = 0
  · obtain rfl : cs = [] := List.eq_nil_of_length_eq_zero h0
    have hl : ∀ (x : Addr), (loadCells x 0).run P w = .ok #[] w := fun x => by simpa using run_loadCells_list (P := P) w x [] (by simp)
    have hz : Nat.min sLen dLen * i.size = 0 := by simpa using hn.symm
    refine ⟨w, ?_, by simpa [splice] using hg, fun B w0 hb _ => hb⟩
    cases dp <;> cases sp <;> simp [Builtin.copy_, run_underlying hu, Builtin.lenOf, Builtin.firstCells, sizeOf, typeInfo, hi, hz, storeCells, hl]
  · obtain ⟨rfl, ad, rfl, hsrc⟩ := hpos (by omega)
    have hl := run_loadCells_list (P := P) w ad cs hsrc
    have hst := run_storeCells_at P g o t cs 0 cur.toArray w hg (by simpa using hfit) h1
    rw [hn] at hl
    refine ⟨_, by simp [Builtin.copy_, run_underlying hu, Builtin.lenOf, Builtin.firstCells, sizeOf, typeInfo, hi, hl, hst]; rfl, ?_, fun B w0 hb hBg => below_setRow hb hBg _⟩
    simpa [splice] using setRow_heap w g _ _ t _ hg

theorem wpList_copy_many {P : Program} {w : World} {ops : Array Oper} {rest : List Oper} {o : Oper} {a : Act} {Q : Exit → Act → World → Prop} (hgd : o.guard = none) (d s : Operand) (dT sT : TypeId)
    (ho : o.op = .call { callee := .builtin .copy, args := #[d, s], argTypes := #[dT, sT] }) (elem : TypeId) (i : TypeInfo) (size : Nat) (hu : P.underlying dT = some (.slice elem)) (hi : P.info? elem = some i) (hsz : i.size = size)
    (dp sp : Option Addr) (dLen dCap sLen sCap : Nat) (hd : a.eval d = .slice dp dLen dCap) (hs : a.eval s = .slice sp sLen sCap)
    (g off : Nat) (cur : List Value) (t : TypeId) (hg : w.heap[g]? = some (.cells cur.toArray t (0, 0))) (cs : List Value) (m : Nat) (hm : Nat.min sLen dLen = m) (hn : cs.length = m * size)
    (hpos : 0 < cs.length → dp = some ⟨g, off, none⟩ ∧ ∃ ad, sp = some ad ∧ ∀ j v, cs[j]? = some v → w.cell? (ad.add j) = some v)
    (hfit : off + cs.length ≤ cur.length) (h1 : ∀ v ∈ cs, v.oneCell' = true) (B : Nat) (w0 : World) (hb : Below B w0 w) (hBg : B ≤ g)
    (h : ∀ w', Hid (w'.heap[g]? = some (.cells (splice cur off cs).toArray t (0, 0))) → Below B w0 w' → wpList P ops Q rest (a.put o.dst (goInt m)) w') :
    wpList P ops Q (o :: rest) a w := by
  obtain ⟨w', hrun, hg', hb'⟩ := run_copy_many (P := P) w dT sT o.type elem i size g off dLen dCap sLen sCap dp sp cur t cs m hm hu hi hsz hg hn hpos hfit h1
  refine wpList_plain hgd fun K hK => ?_
  unfold Oper.wp
  simp [execOp, ho, resolve, invoke, builtin, hd, hs, hrun, Result.andThen]
  exact hK _ _ (h w' hg' (hb' B w0 hb hBg))

theorem step_copy_many {P : Program} {ops : Array Oper} {o : Oper} {a : Act} {w : World} {K : Act → World → Prop} {Q : Exit → Act → World → Prop} {E : Prop} (hgd : o.guard = none) (d s : Operand) (dT sT : TypeId)
    (ho : o.op = .call { callee := .builtin .copy, args := #[d, s], argTypes := #[dT, sT] }) (elem : TypeId) (i : TypeInfo) (size : Nat) (hu : P.underlying dT = some (.slice elem)) (hi : P.info? elem = some i) (hsz : i.size = size)
    (dp sp : Option Addr) (dLen dCap sLen sCap : Nat) (hd : a.eval d = .slice dp dLen dCap) (hs : a.eval s = .slice sp sLen sCap)
    (g off : Nat) (cur : List Value) (t : TypeId) (hg : w.heap[g]? = some (.cells cur.toArray t (0, 0))) (cs : List Value) (m : Nat) (hm : Nat.min sLen dLen = m) (hn : cs.length = m * size)
    (hpos : 0 < cs.length → dp = some ⟨g, off, none⟩ ∧ ∃ ad, sp = some ad ∧ ∀ j v, cs[j]? = some v → w.cell? (ad.add j) = some v)
    (hfit : off + cs.length ≤ cur.length) (h1 : ∀ v ∈ cs, v.oneCell' = true) (B : Nat) (w0 : World) (hb : Below B w0 w) (hBg : B ≤ g)
    (h : ∀ w', Hid (w'.heap[g]? = some (.cells (splice cur off cs).toArray t (0, 0))) → Below B w0 w' → K (a.put o.dst (goInt m)) w') :
    if Region.wanted o (yielded ops a.tmps) = true then Oper.wp P o a w K Q else E := by
  obtain ⟨w', hrun, hg', hb'⟩ := run_copy_many (P := P) w dT sT o.type elem i size g off dLen dCap sLen sCap dp sp cur t cs m hm hu hi hsz hg hn hpos hfit h1
  have hw : Region.wanted o (yielded ops a.tmps) = true := by simp [Region.wanted, hgd]
  rw [if_pos hw]
  unfold Oper.wp
  simp [execOp, ho, resolve, invoke, builtin, hd, hs, hrun, Result.andThen]
  exact h w' hg' (hb' B w0 hb hBg)

/-- The cells of equal elements. -/
def pat (p x : Int) (j : Nat) : Value := if j % 2 = 0 then .int .i64 p else .int .i64 x
theorem numCells_rep (p x : Int) (n : Nat) : ∀ j, j < n * 2 → (numCells p (List.replicate n x))[j]? = some (pat p x j) := by
  intro j hj
  by_cases h : j % 2 = 0
  · obtain ⟨i, rfl⟩ : ∃ i, j = i * 2 := ⟨j / 2, by omega⟩
    rw [numCells_get0 p _ (by simp; omega)]
    simp [pat]
  · obtain ⟨i, rfl⟩ : ∃ i, j = i * 2 + 1 := ⟨j / 2, by omega⟩
    have hi : i < n := by omega
    rw [numCells_get1 p _ (by simp; omega), nth_lt (by simp; omega)]
    simp [pat]
/-- A list whose first cells are those of equal elements. -/
def Filled (p x : Int) (n k : Nat) (cur : List Value) : Prop := cur.length = n * 2 ∧ ∀ j, j < k * 2 → cur[j]? = some (pat p x j)
theorem Filled.grow {p x : Int} {n k m : Nat} {cur : List Value} (h : Filled p x n k cur) (hk : k + m ≤ n) : Filled p x n (k + m) (splice cur (k * 2) (numCells p (List.replicate m x))) := by
  have hl : (numCells p (List.replicate m x)).length = m * 2 := by rw [numCells_len]; simp
  refine ⟨by rw [length_splice _ _ _ (by rw [hl, h.1]; omega)]; exact h.1, fun j hj => ?_⟩
  unfold splice
  by_cases h1 : j < k * 2
  · rw [List.getElem?_append_left (by simp [h.1]; omega), List.getElem?_take_of_lt h1]
    exact h.2 j h1
  · have ht : (cur.take (k * 2)).length = k * 2 := by simp [h.1]; omega
    rw [List.getElem?_append_right (by omega), ht, List.getElem?_append_left (by omega), numCells_rep p x m _ (by omega)]
    unfold pat
    rw [show (j - k * 2) % 2 = j % 2 by omega]
theorem Filled.done {p x : Int} {n : Nat} {cur : List Value} (h : Filled p x n n cur) : cur = numCells p (List.replicate n x) := by
  refine List.ext_getElem? fun j => ?_
  by_cases hj : j < n * 2
  · rw [h.2 j hj, numCells_rep p x n j hj]
  · rw [List.getElem?_eq_none (by rw [h.1]; omega), List.getElem?_eq_none (by rw [numCells_len]; simp; omega)]
theorem cells_one {p x : Int} {k : Nat} : ∀ v ∈ numCells p (List.replicate k x), v.oneCell' = true := by
  intro v hv
  obtain ⟨j, hj, rfl⟩ := List.mem_iff_getElem.1 hv
  have h2 : j < k * 2 := by rw [numCells_len] at hj; simpa using hj
  have := numCells_rep p x k j h2
  rw [List.getElem?_eq_getElem hj] at this
  rw [Option.some.inj this]
  unfold pat
  split <;> rfl
theorem row_cells {w : World} {base e size g n : Nat} {xs : List Value} (h : w.ownsRow base e size (.slice (some ⟨g, 0, none⟩) n n) n xs) : base ≤ g ∧ ∃ cur : List Value, w.heap[g]? = some (.cells cur.toArray e (0, 0)) ∧ cur.length = n * size := by
  rcases h.2 with ⟨hv, _⟩ | ⟨g', cap', cur, hv, hb, hg, _, _, hs, _⟩
  · cases hv
  · cases hv
    exact ⟨hb, cur.toList, by simpa using hg, by simpa using hs⟩

theorem cells_of_nums {w : World} {b : Nat} {p x : Int} {m : Nat} (h : Nums w (some ⟨b, 0, none⟩) p [x]) (hm : m ≤ 1) : ∀ j v, (numCells p (List.replicate m x))[j]? = some v → w.cell? ((⟨b, 0, none⟩ : Addr).add j) = some v := by
  intro j v hj
  have hl := (List.getElem?_eq_some_iff.1 hj).1
  rw [numCells_len, List.length_replicate] at hl
  rw [numCells_rep p x m j (by omega)] at hj
  cases hj
  rcases h with h | ⟨b', hb, hc⟩
  · cases h
  · cases hb
    have := hc 0 (by simp)
    match j, hl with
    | 0, _ => simpa [Addr.add, pat] using this.1
    | 1, _ => simpa [Addr.add, pat, nth] using this.2
    | j + 2, hl => omega
theorem cells_of_filled {w : World} {g n k m : Nat} {p x : Int} {cur : List Value} {t : TypeId} (hg : w.heap[g]? = some (.cells cur.toArray t (0, 0))) (h : Filled p x n k cur) (hm : m ≤ k) : ∀ j v, (numCells p (List.replicate m x))[j]? = some v → w.cell? ((⟨g, 0, none⟩ : Addr).add j) = some v := by
  intro j v hj
  have hl := (List.getElem?_eq_some_iff.1 hj).1
  rw [numCells_len, List.length_replicate] at hl
  rw [numCells_rep p x m j (by omega)] at hj
  have := h.2 j (by omega)
  rw [hj] at this
  have e : (⟨g, 0, none⟩ : Addr).add j = ⟨g, j, none⟩ := by unfold Addr.add; split <;> simp_all
  rw [e]
  simp [World.cell?, hg, this]

set_option maxRecDepth 100000 in
set_option maxHeartbeats 1000000 in
theorem repeat_any (p x : Int) (b c n : Nat) (w : World) (h : Nums w (some ⟨b, 0, none⟩) p [x]) (hn : n ≤ 1000) :
    Calls Try.prog 135 #[.slice (some ⟨b, 0, none⟩) 1 c, .int .i64 n] w
      fun e w' => ∃ v, e = .returned v ∧ OwnN w' w.heap.size p v (List.replicate n x) ∧ Below w.heap.size w w' := by
  obtain ⟨i0, hi, hz0, hz1, hz2⟩ := info_parts Try.infoNum
  obtain ⟨m1, hm1⟩ : ∃ m, Nat.min 1 n = m := ⟨_, rfl⟩
  have hma : m1 ≤ n := by rw [← hm1]; exact Nat.min_le_right 1 n
  have hmb : m1 ≤ 1 := by rw [← hm1]; exact Nat.min_le_left 1 n
  have HMC := Lib.hid (show 0 < n → 0 < m1 from fun h => by rw [← hm1, show Nat.min 1 n = 1 from Nat.min_eq_left h]; omega)
  have HM1 := Lib.hid hm1
  clear hm1
  have hN := Lib.hid h
  clear h
  have h5 : IntKind.u64.wrap (n : Int) = (n : Int) := M64.wrapN _ (by omega) (by omega)
  go_enter Try.func135, Try.ntmps135
  go_wp2_with fail
  refine (mul_one n (by omega) w).mono ?_
  rintro e w' ⟨rfl, rfl⟩
  go_wp2_with (first | (at_make; refine wpList_make_full _ rfl _ _ 173 rfl w.heap.size 126 i0 (.agg #[.int .i64 0, .int .i64 0]) 2 Try.underlying173 hi hz0 hz1 _ _ _ _ n rfl rfl rfl rfl (by rw [hz2]; omega) (by unfold maxLen; omega) (Nat.le_refl _) ?_; intro w4 hown hgrow; have hb4 := (Below.refl w.heap.size w).grown hgrow (Nat.le_refl _) (fun q hq => by cases hq); obtain ⟨hbg, cur, hcur, hclen⟩ := row_cells hown; have HCUR := Lib.hid hcur; clear hcur hown hgrow) | (refine wpList_copy_many rfl _ _ 173 173 rfl 126 i0 2 Try.underlying173 hi hz1 _ _ _ _ _ _ rfl rfl w.heap.size (0 * 2) cur 126 HCUR.out (numCells p (List.replicate m1 x)) m1 HM1.out (by rw [numCells_len, List.length_replicate]) (fun _ => ⟨rfl, _, rfl, cells_of_nums (hN.out.step hb4) hmb⟩) (by rw [numCells_len, List.length_replicate, hclen]; omega) cells_one w.heap.size w hb4 (Nat.le_refl _) ?_; intro w5 hg5 hb5))
  have hfill := Filled.grow (p := p) (x := x) (n := n) (k := 0) (m := m1) (cur := cur) ⟨hclen, fun j hj => absurd hj (by omega)⟩ (by omega)
  rw [Nat.zero_add] at hfill
  have HG0 := Lib.hid hg5.out
  have HF0 := Lib.hid hfill
  have HB5 := Lib.hid hb5
  generalize splice cur (0 * 2) (numCells p (List.replicate m1 x)) = cur1 at *
  clear hfill hg5 HCUR hb5 hb4 hclen
  go_loopw [8] (fun i wr => ∃ (k : Nat) (cur : List Value), k ≤ n ∧ (0 < n → 0 < k) ∧ i = .int .i64 k ∧ wr.heap[w.heap.size]? = some (.cells cur.toArray 126 (0, 0)) ∧ Filled p x n k cur ∧ Below w.heap.size w wr)
    (fun i _ => n - (intOf i).toNat)
  case atStart => exact ⟨m1, _, hma, HMC.out, rfl, HG0.out, HF0.out, HB5.out⟩
  case round =>
    obtain ⟨k, cur, hk, hpos, rfl, hg, hf, hb⟩ := hrel
    have HG := Lib.hid hg
    have HF := Lib.hid hf
    have HB := Lib.hid hb
    have HP := Lib.hid hpos
    clear hg hf hb hpos HG0 HF0 HB5
    have hkn : (k : Int) ≤ (n : Int) := by omega
    by_cases hlt : k < n
    · have hlt0 : (k : Int) < (n : Int) := by omega
      obtain ⟨m, hm⟩ : ∃ m, Nat.min k (n - k) = m := ⟨_, rfl⟩
      have hma2 : m ≤ k := by rw [← hm]; exact Nat.min_le_left _ _
      have hmb2 : m ≤ n - k := by rw [← hm]; exact Nat.min_le_right _ _
      have hmc : 0 < m := by
        rw [← hm]
        exact Nat.lt_min.2 ⟨HP.out (by omega), by omega⟩
      have HM := Lib.hid hm
      clear hm
      go_wp2_with fail
      have hnk : ¬ n = k := by omega
      have hkm : (k : Int) + (m : Int) ≤ 1000 := by omega
      go_region_law (refine step_copy_many (by rfl) (.tmp 41) (.tmp 44) 173 173 (by rfl) 126 i0 2 Try.underlying173 hi hz1 (some ⟨w.heap.size, k * 2, none⟩) (some ⟨w.heap.size, 0, none⟩) (n - k) (n - k) k n (by simp [Act.eval, Act.put]) (by simp [Act.eval, Act.put]) w.heap.size (k * 2) cur 126 HG.out (numCells p (List.replicate m x)) m HM.out (by rw [numCells_len, List.length_replicate]) (fun _ => ⟨rfl, _, rfl, cells_of_filled (w := wr.drew) HG.out HF.out hma2⟩) (by rw [numCells_len, List.length_replicate, HF.out.1]; omega) cells_one w.heap.size w (by first | exact HB.out | exact HB.out.drew) (Nat.le_refl _) ?_; intro w6 hg6 hb6)
      have HG6 := Lib.hid hg6.out
      have HB6 := Lib.hid hb6
      have HF6 := Lib.hid (Filled.grow HF.out (m := m) (by omega))
      generalize splice cur (k * 2) (numCells p (List.replicate m x)) = cur6 at *
      clear hg6 hb6
      have hwr : IntKind.i64.wrap ((k : Int) + (m : Int)) = ((k + m : Nat) : Int) := by rw [IntKind.wrap_i64] <;> omega
      simp only [List.getElem_toArray, List.getElem_cons_succ, List.getElem_cons_zero, Act.put, List.setIfInBounds_toArray, List.set_cons_zero, List.set_cons_succ, hwr]
      go_roundw
      case rel => exact ⟨_, _, _, _, _, _, _, _, _, _, _, _, _, _, ⟨k + m, cur6, by omega, fun _ => by omega, rfl, HG6.out, HF6.out, HB6.out⟩, rfl⟩
      case measure => simp [intOf]; omega
    · have HE := Lib.hid (show k = n by omega)
      go_wp2_with fail
      go_ret
      refine ⟨_, rfl, ⟨by rw [numCells_len], .inr ⟨w.heap.size, n, cur.toArray, by simp, Nat.le_refl _, HG.out, by simp, by unfold maxLen; omega, by simp [HF.out.1], ?_⟩⟩, HB.out⟩
      have hf := HF.out
      rw [HE.out] at hf
      rw [List.length_replicate, ← hf.done]
      exact List.take_of_length_le (by rw [hf.1]; omega)
end Go.Proofs.Ytnebkhelobpkpaa

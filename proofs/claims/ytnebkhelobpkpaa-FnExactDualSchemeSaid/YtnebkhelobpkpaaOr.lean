/- Rows with their owners as cells; ownedRows of the program. -/
import Derived.Test.YtnebkhelobpkpaaNr
namespace Go.Proofs.Ytnebkhelobpkpaa
open Go.RowKit Go.Deep
set_option linter.unusedVariables false

/-- The cells of a row with its owner. -/
def oc (o : Int) (L : List Int) : List Value := [.int .i64 o, .int .i64 (nth L 0), .int .i64 (nth L 1), .int .i64 (nth L 2), .int .i64 (nth L 3), .int .i64 (nth L 4), .int .i64 (nth L 5), .int .i64 (nth L 6), .int .i64 (nth L 7), .int .i64 (nth L 8), .int .i64 (nth L 9), .int .i64 (nth L 10), .int .i64 (nth L 11)]
theorem oc_congr {o : Int} {L M : List Int} (h : ∀ j, j < 12 → nth L j = nth M j) : oc o L = oc o M := by
  unfold oc
  rw [h 0 (by decide), h 1 (by decide), h 2 (by decide), h 3 (by decide), h 4 (by decide), h 5 (by decide), h 6 (by decide), h 7 (by decide), h 8 (by decide), h 9 (by decide), h 10 (by decide), h 11 (by decide)]
theorem oc_len (o : Int) (L : List Int) : (oc o L).length = 13 := rfl
theorem oc_one (o : Int) (L : List Int) : ∀ v ∈ oc o L, v.oneCell' = true := by
  intro v hv
  simp only [oc, List.mem_cons, List.not_mem_nil, or_false] at hv
  rcases hv with rfl | rfl | rfl | rfl | rfl | rfl | rfl | rfl | rfl | rfl | rfl | rfl | rfl <;> rfl
/-- The cells of the first k rows. -/
def ocs (yo : List Int) (z : List (List Int)) (k : Nat) : List Value := (List.range k).flatMap fun i => oc (nth yo i) (nthL z i)
theorem ocs_snoc (yo : List Int) (z : List (List Int)) (k : Nat) : ocs yo z (k + 1) = ocs yo z k ++ oc (nth yo k) (nthL z k) := by
  unfold ocs; rw [List.range_succ, List.flatMap_append]; simp
theorem ocs_len (yo : List Int) (z : List (List Int)) (k : Nat) : (ocs yo z k).length = k * 13 := by
  induction k with
  | zero => rfl
  | succ k ih => rw [ocs_snoc, List.length_append, ih, oc_len, Nat.succ_mul]
theorem ocs_get (yo : List Int) (z : List (List Int)) (k : Nat) {i j : Nat} (hi : i < k) (hj : j < 13) : (ocs yo z k)[i * 13 + j]? = (oc (nth yo i) (nthL z i))[j]? := by
  induction k with
  | zero => omega
  | succ k ih =>
    rw [ocs_snoc]
    by_cases h : i < k
    · rw [List.getElem?_append_left (by rw [ocs_len]; omega)]; exact ih h
    · obtain rfl : i = k := by omega
      rw [List.getElem?_append_right (by rw [ocs_len]; omega), ocs_len, Nat.add_sub_cancel_left]
theorem ocs_congr {yo yp : List Int} {z y : List (List Int)} {k : Nat} (h : ∀ i, i < k → nth yo i = nth yp i ∧ ∀ j, j < 12 → nth (nthL z i) j = nth (nthL y i) j) : ocs yo z k = ocs yp y k := by
  induction k with
  | zero => rfl
  | succ k ih => rw [ocs_snoc, ocs_snoc, ih (fun i hi => h i (by omega)), (h k (by omega)).1, oc_congr (h k (by omega)).2]
theorem cells_new (w : World) (vs : List Value) (t : TypeId) : ∀ j u, vs[j]? = some u → (w.alloc (.cells vs.toArray t)).cell? ((⟨w.heap.size, 0, none⟩ : Addr).add j) = some u := by
  intro j u hj
  rw [WideShapes.add_plain, Nat.zero_add, Boxes.cell (World.alloc_heap_new w _)]
  simpa using hj
theorem rows2_one {w : World} {g : Nat} {ai : Option Addr} {ci : Nat} {row : List Int} (h : w.cell? ⟨g, 0, none⟩ = some (.slice ai row.length ci)) (hi : Ints w ai row) : Rows2 w (some ⟨g, 0, none⟩) [row] := by
  refine .inr ⟨g, 0, rfl, fun i h0 => ?_⟩
  obtain rfl : i = 0 := by simpa using h0
  exact ⟨ai, ci, h, hi⟩
theorem one_small {row : List Int} (h : row.length ≤ 1000) : ∀ r, r < [row].length → (nthL [row] r).length ≤ 1000 := by
  intro r hr
  obtain rfl : r = 0 := by simpa using hr
  exact h
/-- Rows with owners that a call has made. -/
def OwnR (W : World) (base : Nat) (v : Value) (yo : List Int) (z : List (List Int)) (k : Nat) : Prop := W.ownsRow base 139 13 v k (ocs yo z k)

set_option maxRecDepth 100000 in
set_option maxHeartbeats 2000000 in
theorem ownedRows_any (ao : Option Addr) (yo : List Int) (co : Nat) (a : Option Addr) (z : List (List Int)) (c : Nat) (w : World) (ho : Ints w ao yo) (hr : Rows2 w a z) (hn : yo.length = z.length) (hl : yo.length ≤ 1000) (hll : ∀ r, r < z.length → (nthL z r).length ≤ 1000) :
    Calls Try.prog 89 #[.slice ao yo.length co, .slice a z.length c] w fun e w' => (∃ v, e = .returned v ∧ OwnR w' w.heap.size v yo z yo.length) ∧ Below w.heap.size w w' := by
  obtain ⟨i0, hi, hz0, hz1, hz2⟩ := info_parts Try.infoOwned
  have HO := Lib.hid ho
  have HR := Lib.hid hr
  have HLL := Lib.hid hll
  have HN := Lib.hid hn
  clear ho hr hll hn
  go_enter Try.func89, Try.ntmps89
  go_wp2_with (at_make; refine wpList_make_own _ rfl _ _ 132 rfl w.heap.size 139 i0 (.agg #[.int .i64 0, .int .i64 0, .int .i64 0, .int .i64 0, .int .i64 0, .int .i64 0, .int .i64 0, .int .i64 0, .int .i64 0, .int .i64 0, .int .i64 0, .int .i64 0, .int .i64 0]) 13 Try.underlying132 hi hz0 hz1 _ _ _ yo.length rfl rfl rfl (by rw [hz2]; omega) (by unfold maxLen; omega) (Nat.le_refl _) ?_; intro w4 hown hgrow)
  have HB4 := Lib.hid ((Below.refl w.heap.size w).grown hgrow (Nat.le_refl _) (fun q hq => by cases hq))
  have HW4 := Lib.hid (show OwnR w4 w.heap.size (.slice (some ⟨w.heap.size, 0, none⟩) 0 yo.length) yo z 0 from hown)
  generalize (Value.slice (some ⟨w.heap.size, 0, none⟩) 0 yo.length) = v0 at *
  clear hown hgrow
  go_loopw [5, 6, 7, 13] (fun q5 q6 q7 i wr => ∃ k : Nat, k ≤ yo.length ∧ i = .int .i64 k ∧ OwnR wr w.heap.size q5 yo z k ∧ Below w.heap.size w wr)
    (fun _ _ _ i _ => yo.length - (intOf i).toNat)
  case atStart => exact ⟨0, Nat.zero_le _, rfl, HW4.out, HB4.out⟩
  case round =>
    obtain ⟨k, hk, rfl, hown, hb⟩ := hrel
    have HW := Lib.hid hown
    have HB := Lib.hid hb
    have hsz := hb.size
    clear hown hb HB4 HW4
    by_cases hlt : k < yo.length
    · rcases HO.out.below HB.out (Nat.le_refl _) with h | ⟨b, o, rfl, hc⟩
      · rw [h] at hlt; exact absurd hlt (Nat.not_lt_zero _)
      have hco := hc k hlt
      rcases HR.out.below HB.out (Nat.le_refl _) with h | ⟨b2, o2, rfl, hc2⟩
      · have h3 := HN.out; rw [h] at h3; exact absurd (show yo.length = 0 from h3) (by omega)
      have hkz : k < z.length := by have := HN.out; omega
      obtain ⟨ai, ci, hcell, hints⟩ := hc2 k hkz
      have hi0 : (k : Int) < (yo.length : Int) := by omega
      have hi1 : (k : Int) < (z.length : Int) := by omega
      have hlr := HLL.out k hkz
      have HS := Lib.hid (ocs_snoc yo z k)
      generalize nthL z k = row at *
      generalize nth yo k = own at *
      have HI := Lib.hid (hints.step ((Below.refl wr.heap.size wr).alloc (Nat.le_refl _) (.cells #[.slice ai row.length ci] 35)))
      clear hc hc2 hints
      go_wp2_with fail
      refine (newRow_any own (some ⟨wr.heap.size, 0, none⟩) [row] 1 row _ (by simp) (rows2_one (ci := ci) (by simp) HI.out) (by simp) (one_small hlr)).mono ?_
      rintro e w8 ⟨rfl, hb8⟩
      have HB8 := Lib.hid (chain ((Below.refl wr.heap.size wr).alloc (Nat.le_refl _) (.cells #[.slice ai row.length ci] 35)) hb8)
      have HW8 := Lib.hid (show OwnR w8 w.heap.size _ yo z k from row_step HW.out HB8.out)
      have hs8 := HB8.out.size
      clear hb8
      go_wp2_with (at_builtin; refine wpList_append_own _ rfl _ _ 132 rfl w.heap.size 139 i0 (.agg #[.int .i64 0, .int .i64 0, .int .i64 0, .int .i64 0, .int .i64 0, .int .i64 0, .int .i64 0, .int .i64 0, .int .i64 0, .int .i64 0, .int .i64 0, .int .i64 0, .int .i64 0]) 13 104 Try.underlying132 hi hz0 hz1 hz2 rfl (by decide) _ _ _ rfl (World.ownsRow.alloc HW8.out _) ⟨w8.heap.size, 0, none⟩ 1 1 (oc own row) rfl rfl (cells_new w8 (oc own row) 139) (oc_one _ _) (by unfold maxLen; omega) (by omega) (by simp; omega) ?_; intro v' w6 hown6 hgrow6 _)
      have H6 := Lib.hid (show OwnR w6 w.heap.size v' yo z (k + 1) by unfold OwnR; rw [HS.out]; exact hown6)
      have HB6 := Lib.hid (Below.grown ((HB.out.trans (HB8.out.mono hsz)).alloc (by omega) (.cells (oc own row).toArray 139)) hgrow6 (by simp; omega) (fun q hq => (row_lt HW8.out hq).1))
      clear hown6 hgrow6
      go_wp2_with fail
      go_roundw
      case rel => exact ⟨k + 1, by omega, by go_num, H6.out, HB6.out⟩
      case measure => simp [intOf]; omega
    · have HE := Lib.hid (show k = yo.length by omega)
      have ho := HW.out
      rw [HE.out] at ho
      have HW9 := Lib.hid ho
      clear ho
      go_wp2_with fail
      go_ret
      exact ⟨⟨_, rfl, HW9.out⟩, HB.out⟩
end Go.Proofs.Ytnebkhelobpkpaa

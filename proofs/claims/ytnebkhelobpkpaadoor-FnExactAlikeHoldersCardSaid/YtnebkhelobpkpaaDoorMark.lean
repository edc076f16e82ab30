/- The contracts of the laws' marks: markInt64S, heldInt64S. -/
import Derived.Test.YtnebkhelobpkpaaDoorOwn
namespace Go.Proofs.YtnebkhelobpkpaaDoor
open Go.RowKit Go.Deep
set_option linter.unusedVariables false

/-- Only blocks from lo on and before hi may have turned; new ones may have come. -/
structure Touch (lo hi : Nat) (w w' : World) : Prop where
  os : w'.os = w.os
  tape : w'.tape = w.tape
  output : w'.output = w.output
  size : w.heap.size ≤ w'.heap.size
  block : ∀ k, k < w.heap.size → (k < lo ∨ hi ≤ k) → w'.heap[k]? = w.heap[k]?

theorem Touch.below {lo hi : Nat} {w w' : World} (h : Touch lo hi w w') {B : Nat} (hB : B ≤ lo) (hs : lo ≤ w.heap.size) : Below B w w' := ⟨h.os, h.tape, h.output, h.size, fun k hk => h.block k (by omega) (.inl (by omega))⟩
theorem Touch.cell {lo hi : Nat} {w w' : World} (h : Touch lo hi w w') {b o : Nat} {v : Value} (hc : w.cell? ⟨b, o, none⟩ = some v) (hb : b < lo ∨ hi ≤ b) : w'.cell? ⟨b, o, none⟩ = some v :=
  (World.cell?_of_block (w := w) (a := ⟨b, o, none⟩) (h.block b (World.block_lt_of_cell? _ _ hc) hb)).trans hc
theorem Touch.own {lo hi : Nat} {w w' : World} (h : Touch lo hi w w') {base : Nat} {v : Value} {zs : List Int} (k : OwnI w base v zs) (hb : hi ≤ base) : OwnI w' base v zs := by
  refine ⟨k.1, ?_⟩
  rcases k.2 with h2 | ⟨g, cap, cur, hv, hg, hh, r⟩
  · exact .inl h2
  · exact .inr ⟨g, cap, cur, hv, hg, by rw [h.block g (Array.getElem?_eq_some_iff.1 hh).1 (.inr (by omega))]; exact hh, r⟩

/-- n numbers from k on. -/
def marks (k : Int) (n : Nat) : List Int := (List.range n).map fun (i : Nat) => k + i
theorem marks_len (k : Int) (n : Nat) : (marks k n).length = n := by simp [marks]
theorem marks_nth (k : Int) {n i : Nat} (h : i < n) : nth (marks k n) i = k + i := by
  rw [nth_lt (by rw [marks_len]; exact h)]; simp [marks]
theorem marks_succ (k : Int) (n : Nat) : marks k (n + 1) = marks k n ++ [k + n] := by simp [marks, List.range_succ]

theorem half_step (k : Int) (zs : List Int) {j : Nat} (h : j < zs.length) : (vals (marks k j ++ zs.drop j)).set j (.int .i64 (k + j)) = vals (marks k (j + 1) ++ zs.drop (j + 1)) := by
  have e1 : zs.drop j = zs[j] :: zs.drop (j + 1) := List.drop_eq_getElem_cons h
  have e2 : (vals (marks k j)).length = j := by simp [vals, marks_len]
  rw [e1, marks_succ]
  simp only [vals, List.map_append, List.map_cons, List.append_assoc, List.cons_append, List.nil_append]
  have e3 : (List.map (Value.int IntKind.i64) (marks k j)).length = j := e2
  rw [List.set_append, if_neg (by omega), e3, Nat.sub_self]
  rfl

/-- What marks a slice of a call's own. -/
structure Marked (W : World) (base : Nat) (v : Value) (zs : List Int) (k : Int) (e : Ending) (w' : World) : Prop where
  val : e = .returned (.int .i64 (k + zs.length))
  own : OwnI w' base v (marks k zs.length)
  size : w'.heap.size = W.heap.size
  grown : W.grownBy w' v.ownBlock

set_option maxRecDepth 100000 in
set_option maxHeartbeats 400000 in
theorem markInt64S_any (v : Value) (zs : List Int) (base : Nat) (k : Int) (w : World) (ho : OwnI w base v zs) (hk0 : 0 ≤ k) (hk1 : k ≤ 1152921504606846976) (hl : zs.length ≤ 1152921504606846976) :
    Calls Tryd.prog 15 #[v, .int .i64 k] w (Marked w base v zs k) := by
  rcases ho.2 with ⟨rfl, hn⟩ | ⟨g, cap, cur, rfl, hbg, _⟩
  · have e0 : zs = [] := List.eq_nil_of_length_eq_zero hn
    subst e0
    clear hn ho
    go_enter Tryd.func15, Tryd.ntmps15
    go_wp2_with fail
    go_rounds 1
    go_ret
    exact ⟨by simp, World.ownsRow_nil _ _ _ _, rfl, World.grownBy.refl _ _⟩
  · have HO := Lib.hid ho
    clear ho
    go_enter Tryd.func15, Tryd.ntmps15
    go_wp2_with fail
    go_loopw [1, 5] (fun q i wr => ∃ j : Nat, j ≤ zs.length ∧ i = .int .i64 j ∧ q = .int .i64 (k + j) ∧ wr.ownsRow base 2 1 (.slice (some ⟨g, 0, none⟩) zs.length cap) zs.length (vals (marks k j ++ zs.drop j)) ∧ wr.heap.size = w.heap.size ∧ w.grownBy wr (some g))
      (fun _ i _ => zs.length - (intOf i).toNat)
    case atStart => exact ⟨0, Nat.zero_le _, rfl, by simp, by have h1 := HO.out; unfold OwnI at h1; simpa [marks] using h1, rfl, World.grownBy.refl _ _⟩
    case round =>
      obtain ⟨j, hj, rfl, rfl, hown, hsz, hgr⟩ := hrel
      by_cases hlt : j < zs.length
      · have hlen : (vals (marks k j ++ zs.drop j)).length = zs.length := by simp [vals, marks_len]; omega
        have hc0 := hown.cellAt j (by omega)
        rw [List.getElem?_eq_getElem (by rw [hlen]; exact hlt)] at hc0
        have hfr := hown.frozenAt j
        have hi0 : (j : Int) < (zs.length : Int) := by omega
        obtain ⟨hst1, hst2⟩ := hown.stored j (.int .i64 (k + j))
        rw [half_step k zs hlt] at hst1
        have H1 := Lib.hid hst1
        have H2 := Lib.hid (show w.grownBy (wr.setCell ⟨g, j, none⟩ (.int .i64 (k + j))) (some g) from ⟨hst2.os.trans hgr.os, hst2.tape.trans hgr.tape, hst2.output.trans hgr.output, Nat.le_trans hgr.size hst2.size, fun q hq hne => (hst2.block q (Nat.lt_of_lt_of_le hq hgr.size) hne).trans (hgr.block q hq hne)⟩)
        have H3 := Lib.hid (show (wr.setCell ⟨g, j, none⟩ (.int .i64 (k + j))).heap.size = w.heap.size by simpa using hsz)
        generalize (vals (marks k j ++ zs.drop j))[j]'(by rw [hlen]; exact hlt) = u0 at hc0
        clear hown hst1 hst2 hgr hsz hlen
        go_wp2_with fail
        go_roundw
        case rel => exact ⟨j + 1, by omega, by go_num, by go_num, H1.out, H3.out, H2.out⟩
        case measure => simp [intOf]; omega
      · have e : j = zs.length := by omega
        have HE := Lib.hid e
        have HW := Lib.hid hown
        have HG := Lib.hid hgr
        have HZ := Lib.hid hsz
        clear e hown hgr hsz
        go_wp2_with fail
        go_ret
        refine ⟨by rw [HE.out]; rfl, ?_, HZ.out, HG.out⟩
        have h1 := HW.out
        rw [HE.out, List.drop_length, List.append_nil] at h1
        unfold OwnI
        rw [marks_len]
        exact h1

set_option maxRecDepth 100000 in
theorem heldInt64S_any (a : Option Addr) (n c : Nat) (k : Int) (w : World) (h : Ints w a (marks k n)) (hk0 : 0 ≤ k) (hk1 : k ≤ 1152921504606846976) (hl : n ≤ 1152921504606846976) :
    Calls Tryd.prog 16 #[.slice a n c, .int .i64 k] w fun e w' => e = .returned (.int .i64 (k + n)) ∧ w = w' := by
  go_enter Tryd.func16, Tryd.ntmps16
  go_wp2_with fail
  go_loop [1, 5] (fun q i => ∃ j : Nat, j ≤ n ∧ i = .int .i64 j ∧ q = .int .i64 (k + j))
    (fun _ i => n - (intOf i).toNat)
  case atStart => exact ⟨0, Nat.zero_le _, rfl, by simp⟩
  case round =>
    obtain ⟨j, hj, rfl, rfl⟩ := hrel
    by_cases hlt : j < n
    · rcases h with h | ⟨b, o, rfl, hc⟩
      · have := congrArg List.length h
        rw [marks_len] at this
        simp at this
        omega
      have hcell := hc j (by rw [marks_len]; exact hlt)
      rw [marks_nth k hlt] at hcell
      have hi0 : (j : Int) < (n : Int) := by omega
      clear hc
      go_wp2_with fail
      go_round
      case rel => exact ⟨j + 1, by omega, by go_num, by go_num⟩
      case measure => simp [intOf]; omega
    · have HE := Lib.hid (show j = n by omega)
      go_wp2_with fail
      go_ret
      exact ⟨by rw [HE.out]; rfl, rfl⟩
end Go.Proofs.YtnebkhelobpkpaaDoor

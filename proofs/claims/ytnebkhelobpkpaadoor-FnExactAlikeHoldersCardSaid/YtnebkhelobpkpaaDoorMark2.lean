/- The contracts of the laws' marks of copies of families: markInt64SS, markFamily. -/
import Derived.Test.YtnebkhelobpkpaaDoorMark
namespace Go.Proofs.YtnebkhelobpkpaaDoor
open Go.RowKit Go.Deep
set_option linter.unusedVariables false

theorem own_of_row {w : World} {g : Nat} {zs : List Int} (h : w.rowIs g 2 zs.length (fun i => .int .i64 (nth zs i))) (hl : zs.length ≤ maxLen) : OwnI w g (.slice (some ⟨g, 0, none⟩) zs.length zs.length) zs := by
  obtain ⟨c, hg, hn, hc⟩ := h
  refine ⟨by simp [vals], .inr ⟨g, zs.length, c, rfl, Nat.le_refl _, hg, Nat.le_refl _, hl, by omega, ?_⟩⟩
  apply List.ext_getElem?
  intro i
  by_cases hi : i < zs.length
  · rw [List.getElem?_take_of_lt (by omega), ← Array.getElem?_toList] at *
    have := hc i hi
    simp only [Array.getElem?_toList] at *
    rw [this]
    simp [vals, hi, nth_lt hi]
  · simp [vals, hi, hn]

theorem Touch.refl (lo hi : Nat) (w : World) : Touch lo hi w w := ⟨rfl, rfl, rfl, Nat.le_refl _, fun _ _ _ => rfl⟩
theorem Touch.trans {lo hi : Nat} {a b c : World} (h : Touch lo hi a b) (k : Touch lo hi b c) : Touch lo hi a c :=
  ⟨k.os.trans h.os, k.tape.trans h.tape, k.output.trans h.output, Nat.le_trans h.size k.size, fun q hq hne => (k.block q (Nat.lt_of_lt_of_le hq h.size) hne).trans (h.block q hq hne)⟩
theorem Touch.of_grown {lo hi : Nat} {w w' : World} {row : Option Nat} (h : w.grownBy w' row) (hr : ∀ k, row = some k → lo ≤ k ∧ k < hi) : Touch lo hi w w' :=
  ⟨h.os, h.tape, h.output, h.size, fun q hq hne => h.block q hq (fun e => by have := hr q e.symm; omega)⟩
theorem Touch.row {lo hi : Nat} {w w' : World} (h : Touch lo hi w w') {g : Nat} {t : TypeId} {n : Nat} {f : Nat → Value} (k : w.rowIs g t n f) (hg : g < lo ∨ hi ≤ g) : w'.rowIs g t n f := k.of_block (h.block g k.lt hg)
theorem Touch.of_below {w w' : World} (lo hi : Nat) (h : Below w.heap.size w w') : Touch lo hi w w' := ⟨h.os, h.tape, h.output, h.size, fun q hq _ => h.block q hq⟩

structure Marked2 (W : World) (g n : Nat) (e : Ending) (w' : World) : Prop where
  val : GivesInt (fun q => 0 ≤ q) e
  touch : Touch g (g + 1 + n) W w'

set_option maxRecDepth 100000 in
set_option maxHeartbeats 400000 in
theorem markInt64SS_any (g c : Nat) (zss : List (List Int)) (k : Int) (w : World) (ho : Own2 w g zss) (hs : Small2 zss) (hk0 : 0 ≤ k) (hk1 : k ≤ 1048576) :
    Calls Tryd.prog 41 #[.slice (some ⟨g, 0, none⟩) zss.length c, .int .i64 k] w fun e w' => Marked2 w g zss.length e w' ∧ w'.heap.size = w.heap.size := by
  have hl1 : zss.length ≤ 1048576 := hs.1
  have HS := Lib.hid hs
  have HO := Lib.hid ho
  clear hs ho
  go_enter Tryd.func41, Tryd.ntmps41
  go_wp2_with fail
  go_loopw [1, 5] (fun q i wr => ∃ (j : Nat) (u : Int), j ≤ zss.length ∧ i = .int .i64 j ∧ q = .int .i64 u ∧ 0 ≤ u ∧ u ≤ 1048576 + j * 1048576 ∧ wr.rowIs g 26 zss.length (fun r => .slice (some ⟨g + 1 + r, 0, none⟩) (nthL zss r).length (nthL zss r).length) ∧
      (∀ r, j ≤ r → r < zss.length → wr.rowIs (g + 1 + r) 2 (nthL zss r).length (fun i => .int .i64 (nth (nthL zss r) i))) ∧ wr.heap.size = w.heap.size ∧ Touch g (g + 1 + zss.length) w wr)
    (fun _ i _ => zss.length - (intOf i).toNat)
  case atStart => exact ⟨0, k, Nat.zero_le _, rfl, rfl, hk0, by omega, HO.out.top, fun r _ hr => HO.out.row r hr, rfl, Touch.refl _ _ _⟩
  case round =>
    obtain ⟨j, u, hj, rfl, rfl, hu0, hu1, htop, hrows, hsz, ht⟩ := hrel
    by_cases hlt : j < zss.length
    · have hc := htop.cell hlt
      have hi0 : (j : Int) < (zss.length : Int) := by omega
      have hlr := HS.out.2 j hlt
      have HOW := Lib.hid (own_of_row (hrows j (Nat.le_refl _) hlt) (by unfold maxLen; omega))
      have HT := Lib.hid htop
      have HR := Lib.hid hrows
      have HZ := Lib.hid hsz
      have HTO := Lib.hid ht
      clear htop hrows hsz ht
      go_wp2_with fail
      refine (markInt64S_any _ (nthL zss j) (g + 1 + j) u wr HOW.out hu0 (by omega) (by omega)).mono ?_
      rintro e w1 ⟨rfl, hown1, hsz1, hgr1⟩
      have t1 : Touch (g + 1 + j) (g + 1 + j + 1) wr w1 := Touch.of_grown hgr1 (fun q hq => by simp [Value.ownBlock] at hq; omega)
      have H1 := Lib.hid (t1.row HT.out (.inl (by omega)))
      have H2 := Lib.hid (show ∀ r, j + 1 ≤ r → r < zss.length → w1.rowIs (g + 1 + r) 2 (nthL zss r).length (fun i => .int .i64 (nth (nthL zss r) i)) from fun r hr hrl => t1.row (HR.out r (by omega) hrl) (.inr (by omega)))
      have H3 := Lib.hid (hsz1.trans HZ.out)
      have H4 := Lib.hid (HTO.out.trans (Touch.of_grown hgr1 (fun q hq => by simp [Value.ownBlock] at hq; omega)))
      clear t1 hown1 hsz1 hgr1
      go_wp2_with fail
      go_roundw
      case rel => exact ⟨j + 1, u + (nthL zss j).length, by omega, by go_num, rfl, by omega, by omega, H1.out, H2.out, H3.out, H4.out⟩
      case measure => simp [intOf]; omega
    · have HT := Lib.hid ht
      have HZ := Lib.hid hsz
      clear hrows htop ht hsz
      go_wp2_with fail
      go_ret
      exact ⟨⟨⟨u, hu0, rfl⟩, HT.out⟩, HZ.out⟩

set_option maxRecDepth 100000 in
theorem markFamily_any (h : Int) (g c : Nat) (zss : List (List Int)) (k : Int) (w : World) (ho : Own2 w g zss) (hs : Small2 zss) (hk0 : 0 ≤ k) (hk1 : k ≤ 1048576) :
    Calls Tryd.prog 14 #[.agg #[.int .i64 h, .slice (some ⟨g, 0, none⟩) zss.length c], .int .i64 k] w (Marked2 w g zss.length) := by
  have hb1 := (Below.refl w.heap.size w).alloc (Nat.le_refl _) (.cells #[.int .i64 h, .slice (some ⟨g, 0, none⟩) zss.length c] 29)
  have HO := Lib.hid (ho.step hb1)
  have HS := Lib.hid hs
  clear ho hs
  go_enter Tryd.func14, Tryd.ntmps14
  go_wp2_with fail
  refine (markInt64SS_any g c zss k _ HO.out HS.out hk0 hk1).mono ?_
  generalize w.alloc (.cells #[.int .i64 h, .slice (some ⟨g, 0, none⟩) zss.length c] 29) = w1 at *
  rintro e w2 ⟨⟨⟨u, hu, rfl⟩, ht⟩, _⟩
  have HT := Lib.hid ((Touch.of_below _ _ hb1).trans ht)
  clear ht hb1
  go_wp2_with fail
  go_ret
  exact ⟨⟨u, hu, rfl⟩, HT.out⟩
end Go.Proofs.YtnebkhelobpkpaaDoor

/- Shares as an argument: toShareS, szShareS of the law; a slice of shares opened. -/
import Derived.Test.YtgndekojodpmkaaDoorSha
import Derived.Test.YtgndekojodpmkaaDoorTb
namespace Go.Proofs.YtgndekojodpmkaaDoor
open Go.ChangeShapes Go.WideShapes Go.ChangeAt Go.RowKit Go.Deep
set_option linter.unusedVariables false

set_option maxRecDepth 100000 in
theorem szShareS_any (a : Option Addr) (n c : Nat) (left : Int) (w : World) (h0 : 0 ≤ left) (h1 : left ≤ 1048576) (hl : n ≤ 9223372036854775807) :
    Calls Tryd.prog 18 #[.slice a n c, .int .i64 left] w fun e w' => GivesInt (RoomFor left (n ≤ 1048576)) e ∧ w = w' := by
  by_cases h : left - (n : Int) < 0
  all_goals
    go_enter Tryd.func18, Tryd.ntmps18
    go_wp2
    go_ret
  · exact ⟨⟨_, .inl rfl, rfl⟩, rfl⟩
  · exact ⟨⟨_, .inr ⟨by omega, by omega, by omega⟩, rfl⟩, rfl⟩
set_option maxRecDepth 100000 in
theorem toShare_any (x y : Int) (w : World) : Calls Tryd.prog 58 #[.agg #[.int .i64 x, .int .i64 y]] w fun e w' => e = .returned (.agg #[.int .i64 x, .int .i64 y]) ∧ Below w.heap.size w w' := by
  go_enter Tryd.func58, Tryd.ntmps58
  go_wp2
  refine bodyPost_ret (v := .agg #[.int .i64 x, .int .i64 y]) (by simp [results, Tryd.results58, go_sem]) rfl ⟨rfl, ?_⟩
  go_grown
set_option maxRecDepth 100000 in
set_option maxHeartbeats 1000000 in
theorem toShareS_any (a : Option Addr) (n : Nat) (zs : List Int) (c : Nat) (w : World) (h : Ints w a zs) (hz : zs.length = n * 2) (hl : n ≤ 1048576) :
    Calls Tryd.prog 20 #[.slice a n c] w fun e w' => ∃ g, e = .returned (.slice (some ⟨g, 0, none⟩) n n) ∧ Ints w' (some ⟨g, 0, none⟩) zs ∧ Below w.heap.size w w' := by
  have hmk := run_make_row2 (P := Tryd.prog) 42 91 (.int .i64 0) (.int .i64 0) 16 Tryd.underlying42 Tryd.infoShare rfl .i64 .i64 n (by omega) (by omega)
  have HZ := Lib.hid hz
  have HI := Lib.hid h
  have HR0 := Lib.hid (rowIs_made2 w (.int .i64 0) (.int .i64 0) n 91)
  have HB0 := Lib.hid ((Below.refl w.heap.size w).alloc (Nat.le_refl _) (.cells (madeCells #[.int .i64 0, .int .i64 0] (n * 2)) 91))
  clear hz h
  go_enter Tryd.func20, Tryd.ntmps20
  go_wp2_with fail
  clear hmk
  generalize w.alloc (.cells (madeCells #[.int .i64 0, .int .i64 0] (n * 2)) 91) = w4 at *
  go_loopw [4] (fun i wr => ∃ k : Nat, k ≤ n ∧ i = .int .i64 k ∧ wr.rowIs w.heap.size 91 (n * 2) (fun q => if q < k * 2 then .int .i64 (nth zs q) else .int .i64 0) ∧ Below w.heap.size w wr)
    (fun i _ => n - (intOf i).toNat)
  case atStart => exact ⟨0, Nat.zero_le _, rfl, HR0.out.congr (fun i _ => by simp), HB0.out⟩
  case round =>
    obtain ⟨k, hk, rfl, hrow, hbel⟩ := hrel
    have hlg := hrow.lt
    have HRW := Lib.hid hrow
    have HB := Lib.hid hbel
    have hsz := hbel.size
    clear hrow hbel HR0 HB0
    by_cases hlt : k < n
    · have hk1 : k * 2 < zs.length := by have := HZ.out; omega
      have hk2 : k * 2 + 1 < zs.length := by have := HZ.out; omega
      rcases HI.out.below HB.out (Nat.le_refl _) with h | ⟨b, o, rfl, hc⟩
      · rw [h] at hk1; exact absurd hk1 (Nat.not_lt_zero _)
      have g1 := hc (k * 2) hk1
      have g2 := hc (k * 2 + 1) hk2
      rw [← Nat.add_assoc] at g2
      have HX := Lib.hid (show nth zs (k * 2) = nth zs (k * 2) ∧ nth zs (k * 2 + 1) = nth zs (k * 2 + 1) from ⟨rfl, rfl⟩)
      obtain ⟨x, hx⟩ : ∃ x, nth zs (k * 2) = x := ⟨_, rfl⟩
      obtain ⟨y, hy⟩ : ∃ y, nth zs (k * 2 + 1) = y := ⟨_, rfl⟩
      rw [hx] at g1
      rw [hy] at g2
      have HXX := Lib.hid hx
      have HYY := Lib.hid hy
      have hi : ((k : Int)) < (n : Int) := by omega
      clear hc HX hx hy
      go_wp2_with fail
      refine (toShare_any x y _).mono ?_
      rintro e w5 ⟨rfl, hb5⟩
      have HR5 := Lib.hid (rowIs_below HRW.out hb5 hlg)
      have HB5 := Lib.hid (HB.out.trans (hb5.mono hsz))
      have h2 : w5.cell? ⟨w.heap.size, k * 2, none⟩ = some (.int .i64 0) := by simpa using HR5.out.cell (show k * 2 < n * 2 by omega)
      have h3 : w5.cell? ⟨w.heap.size, k * 2 + 1, none⟩ = some (.int .i64 0) := by
        have := HR5.out.cell (show k * 2 + 1 < n * 2 by omega)
        rw [if_neg (by omega)] at this
        exact this
      have f2 : w5.frozen? ⟨w.heap.size, k * 2, none⟩ = false := HR5.out.frozen _
      have f3 : w5.frozen? ⟨w.heap.size, k * 2 + 1, none⟩ = false := HR5.out.frozen _
      have hl5 := HR5.out.lt
      have H6 := Lib.hid ((((HR5.out.set (k * 2) (.int .i64 x)).set (k * 2 + 1) (.int .i64 y))).congr (g := fun q => if q < (k + 1) * 2 then .int .i64 (nth zs q) else .int .i64 0) (fun j _ => by
        by_cases e : j = k * 2 + 1
        · subst e; simp [HYY.out, show k * 2 + 1 < (k + 1) * 2 by omega]
        · by_cases e1 : j = k * 2
          · subst e1; simp [HXX.out, show k * 2 < (k + 1) * 2 by omega]
          · by_cases e2 : j < k * 2
            · simp [e, e1, e2, show j < (k + 1) * 2 by omega]
            · simp [e, e1, e2, show ¬ j < (k + 1) * 2 by omega]))
      have HB6 := Lib.hid ((HB5.out.setCell (p := ⟨w.heap.size, k * 2, none⟩) (Nat.le_refl _) (.int .i64 x)).setCell (p := ⟨w.heap.size, k * 2 + 1, none⟩) (Nat.le_refl _) (.int .i64 y))
      clear hb5
      go_wp2_with fail
      go_roundw
      case rel => exact ⟨k + 1, by omega, by go_num, H6.out, HB6.out⟩
      case measure => simp [intOf]; omega
    · have HE := Lib.hid (show k = n by omega)
      go_wp2_with fail
      go_ret
      refine ⟨w.heap.size, rfl, ?_, HB.out⟩
      refine .inr ⟨w.heap.size, 0, rfl, fun i hi => ?_⟩
      have h1 : i < n * 2 := by have := HZ.out; omega
      rw [Nat.zero_add, HRW.out.cell h1, if_pos (by have := HE.out; omega)]

section
variable {H : Type} {enc : TypeId × Value → H} {w : World} {base : Nat} {held : Bool}
set_option maxRecDepth 100000 in
theorem open_shs {fuel : Nat} {a0 : Option Addr} {n c : Nat} {x : DataW H × List MemPlace} (h : DataW.trod enc Tryd.prog w base (fun _ => true) held fuel 39 [.slice a0 n c] = some x) :
    ∃ zs, zs.length = n * 2 ∧ Ints w a0 zs ∧ n ≤ 9223372036854775807 := by
  rcases open_slice_pairs Tryd.underlying39 Tryd.underlying93 (by kernel_rfl) (by kernel_rfl) (by kernel_rfl) (by kernel_rfl) (by kernel_rfl) h with ⟨hcs, _⟩ | ⟨a, len, cap, m, fu, V0, V1, D0, D1, P0, P1, hcs, _, hl, hm, hmm, _, hx⟩
  · simp at hcs
    obtain ⟨rfl, rfl, rfl⟩ := hcs
    exact ⟨[], rfl, .inl rfl, by simp⟩
  · simp at hcs
    obtain ⟨rfl, rfl, rfl⟩ := hcs
    simp only [if_true] at hmm
    subst hmm
    have hm' : m ≤ 9223372036854775807 := hm
    have each : ∀ i, i < n → ∃ q : Int × Int, V0 i = .int .i64 q.1 ∧ V1 i = .int .i64 q.2 := fun i hi => by
      obtain ⟨_, _, h0, h1⟩ := hx i (by omega)
      have g0 : DataW.trod enc Tryd.prog w base (fun _ => true) held fu 2 [V0 i] = some (D0 i, P0 i) := h0
      have g1 : DataW.trod enc Tryd.prog w base (fun _ => true) held fu 2 [V1 i] = some (D1 i, P1 i) := h1
      obtain ⟨s, e0, _, _⟩ := DataW.trod_int Tryd.underlying2 g0
      obtain ⟨t, e1, _, _⟩ := DataW.trod_int Tryd.underlying2 g1
      simp at e0 e1
      exact ⟨(s, t), e0, e1⟩
    obtain ⟨q, hq⟩ := choose_lt (α := Int × Int) each
    have hnth : ∀ i, i < n * 2 → nth ((List.range (n * 2)).map fun i => if i % 2 = 0 then (q (i / 2)).1 else (q (i / 2)).2) i = if i % 2 = 0 then (q (i / 2)).1 else (q (i / 2)).2 := fun i hi => by
      rw [nth_lt (by simpa using hi)]; simp
    refine ⟨(List.range (n * 2)).map fun i => if i % 2 = 0 then (q (i / 2)).1 else (q (i / 2)).2, by simp, ?_, by omega⟩
    by_cases h0 : n = 0
    · subst h0; exact .inl rfl
    · obtain ⟨b, o, sp⟩ := a
      have hsp : sp = none := by simpa [Addr.add] using World.cell?_spot (hx 0 (by omega)).1
      subst hsp
      refine .inr ⟨b, o, rfl, fun i hi => ?_⟩
      have hi' : i < n * 2 := by simpa using hi
      rw [hnth i hi']
      obtain ⟨e0, e1⟩ := hq (i / 2) (by omega)
      obtain ⟨k0, k1, _, _⟩ := hx (i / 2) (by omega)
      rw [e0, add_plain] at k0
      rw [e1, add_plain, ← Nat.add_assoc] at k1
      rcases Nat.mod_two_eq_zero_or_one i with hm2 | hm2
      · rw [if_pos hm2]
        rw [show o + i = o + i / 2 * 2 by omega]
        exact k0
      · rw [if_neg (by omega)]
        rw [show o + i = o + i / 2 * 2 + 1 by omega]
        exact k1
end
end Go.Proofs.YtgndekojodpmkaaDoor

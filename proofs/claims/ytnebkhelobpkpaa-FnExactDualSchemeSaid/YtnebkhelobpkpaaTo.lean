/- The contracts of the laws' own copies: toInt64S, toInt64SS. -/
import Derived.Test.YtnebkhelobpkpaaMem
namespace Go.Proofs.Ytnebkhelobpkpaa
open Go.RowKit Go.Deep

set_option maxRecDepth 100000 in
set_option maxHeartbeats 400000 in
theorem toInt64S_any (a : Option Addr) (zs : List Int) (c : Nat) (w : World) (h : Ints w a zs) (hl : zs.length ≤ 1048576) :
    Calls Try.prog 27 #[.slice a zs.length c] w fun e w' => e = .returned (.slice (some ⟨w.heap.size, 0, none⟩) zs.length zs.length) ∧
      w'.heap.size = w.heap.size + 1 ∧ w'.rowIs w.heap.size 2 zs.length (fun i => .int .i64 (nth zs i)) ∧ Below w.heap.size w w' := by
  have hmk := run_make_row' (P := Try.prog) 35 2 (.int .i64 0) 8 Try.underlying35 Try.infoInt64 rfl .i64 .i64 zs.length (by omega) (by omega)
  go_enter Try.func27, Try.ntmps27
  go_wp2
  have hr0 := World.rowIs_made w (.int .i64 0) zs.length 2
  have hB0 := (Below.refl w.heap.size w).alloc (Nat.le_refl _) (.cells (madeCells #[.int .i64 0] zs.length) 2)
  clear hmk
  go_loopw [4] (fun i wr => ∃ k : Nat, k ≤ zs.length ∧ i = .int .i64 k ∧ wr.heap.size = w.heap.size + 1 ∧ wr.rowIs w.heap.size 2 zs.length (fun i => if i < k then .int .i64 (nth zs i) else .int .i64 0) ∧ Below w.heap.size w wr)
    (fun i _ => zs.length - (intOf i).toNat)
  case atStart => exact ⟨0, Nat.zero_le _, rfl, by simp, hr0.congr (fun i _ => by simp), hB0⟩
  case round =>
    obtain ⟨k, hk, rfl, hsz, hrow, hbel⟩ := hrel
    clear hr0 hB0
    by_cases hlt : k < zs.length
    · rcases h with h | ⟨b, o, rfl, hc⟩
      · rw [h] at hlt; exact absurd hlt (Nat.not_lt_zero _)
      have h1 : wr.cell? ⟨b, o + k, none⟩ = some (.int .i64 (nth zs k)) := by
        rw [hbel.cell (p := ⟨b, o + k, none⟩) (World.block_lt_of_cell? _ _ (hc k hlt))]
        exact hc k hlt
      have h2 : wr.cell? ⟨w.heap.size, k, none⟩ = some (.int .i64 0) := by simpa using hrow.cell hlt
      have h3 : wr.frozen? ⟨w.heap.size, k, none⟩ = false := hrow.frozen k
      have hrow' := (hrow.set k (.int .i64 (nth zs k))).congr (g := fun i => if i < k + 1 then .int .i64 (nth zs i) else .int .i64 0) (fun j _ => by
        by_cases e : j = k
        · subst e; simp
        · by_cases e2 : j < k
          · simp [e, e2, show j < k + 1 by omega]
          · simp [e, e2, show ¬ j < k + 1 by omega])
      have hbel' := hbel.setCell (p := ⟨w.heap.size, k, none⟩) (Nat.le_refl _) (.int .i64 (nth zs k))
      have hsz' : (wr.setCell ⟨w.heap.size, k, none⟩ (.int .i64 (nth zs k))).heap.size = w.heap.size + 1 := by simpa using hsz
      have hS := Lib.hid hsz'
      clear hc hrow hbel hsz hsz'
      go_wp2
      go_roundw
      case rel => exact ⟨k + 1, by omega, by go_num, hS.out, hrow', hbel'⟩
      case measure => simp [intOf]; omega
    · go_wp2
      go_ret
      exact ⟨rfl, hsz, hrow.congr (fun i hi => by rw [if_pos (by omega)]), hbel⟩

set_option maxRecDepth 100000 in
set_option maxHeartbeats 400000 in
theorem toInt64SS_any (a : Option Addr) (zss : List (List Int)) (c : Nat) (w : World) (h : Rows2 w a zss) (hl : zss.length ≤ 1048576) (hll : ∀ r, r < zss.length → (nthL zss r).length ≤ 1048576) :
    Calls Try.prog 101 #[.slice a zss.length c] w fun e w' => e = .returned (.slice (some ⟨w.heap.size, 0, none⟩) zss.length zss.length) ∧
      w'.heap.size = w.heap.size + 1 + zss.length ∧ Own2 w' w.heap.size zss ∧ Below w.heap.size w w' := by
  have hmk := run_make_row' (P := Try.prog) 36 35 (.slice none 0 0) 24 Try.underlying36 Try.infoInt64S rfl .i64 .i64 zss.length (by omega) (by omega)
  go_enter Try.func101, Try.ntmps101
  go_wp2
  have hr0 := World.rowIs_made w (.slice none 0 0) zss.length 35
  have hB0 := (Below.refl w.heap.size w).alloc (Nat.le_refl _) (.cells (madeCells #[.slice none 0 0] zss.length) 35)
  clear hmk
  go_loopw [4] (fun i wr => ∃ k : Nat, k ≤ zss.length ∧ i = .int .i64 k ∧ wr.heap.size = w.heap.size + 1 + k ∧
      wr.rowIs w.heap.size 35 zss.length (fun r => if r < k then .slice (some ⟨w.heap.size + 1 + r, 0, none⟩) (nthL zss r).length (nthL zss r).length else .slice none 0 0) ∧
      (∀ r, r < k → wr.rowIs (w.heap.size + 1 + r) 2 (nthL zss r).length (fun i => .int .i64 (nth (nthL zss r) i))) ∧ Below w.heap.size w wr)
    (fun i _ => zss.length - (intOf i).toNat)
  case atStart => exact ⟨0, Nat.zero_le _, rfl, by simp, hr0.congr (fun i _ => by simp), fun r hr => absurd hr (Nat.not_lt_zero _), hB0⟩
  case round =>
    obtain ⟨k, hk, rfl, hsz, hrow, hrows, hbel⟩ := hrel
    clear hr0 hB0
    by_cases hlt : k < zss.length
    · rcases h with h | ⟨b, o, rfl, hc⟩
      · rw [h] at hlt; exact absurd hlt (Nat.not_lt_zero _)
      obtain ⟨ai, ci, hcell, hints⟩ := hc k hlt
      have h1 : wr.cell? ⟨b, o + k, none⟩ = some (.slice ai (nthL zss k).length ci) := by
        rw [hbel.cell (p := ⟨b, o + k, none⟩) (World.block_lt_of_cell? _ _ hcell)]
        exact hcell
      have hints' := hints.below hbel (Nat.le_refl _)
      have HK := Lib.hid hll
      have HS := Lib.hid hsz
      have HR := Lib.hid hrow
      have HRS := Lib.hid hrows
      have HB := Lib.hid hbel
      clear hll hsz hrow hrows hbel hc
      go_wp2_with fail
      refine (toInt64S_any ai (nthL zss k) ci wr hints' (HK.out k hlt)).mono ?_
      rintro e w1 ⟨rfl, hsz1, hrow1, hbel1⟩
      have hrow := rowIs_below HR.out hbel1 HR.out.lt
      have h2 : w1.cell? ⟨w.heap.size, k, none⟩ = some (.slice none 0 0) := by simpa using hrow.cell hlt
      have h3 : w1.frozen? ⟨w.heap.size, k, none⟩ = false := hrow.frozen k
      have e1 : wr.heap.size = w.heap.size + 1 + k := HS.out
      rw [e1] at hrow1 hsz1 ⊢
      have hrow' := (hrow.set k (.slice (some ⟨w.heap.size + 1 + k, 0, none⟩) (nthL zss k).length (nthL zss k).length)).congr (g := fun r => if r < k + 1 then .slice (some ⟨w.heap.size + 1 + r, 0, none⟩) (nthL zss r).length (nthL zss r).length else .slice none 0 0) (fun j _ => by
        by_cases e : j = k
        · subst e; simp
        · by_cases e2 : j < k
          · simp [e, e2, show j < k + 1 by omega]
          · simp [e, e2, show ¬ j < k + 1 by omega])
      have hbel' := (HB.out.trans (hbel1.mono (by rw [e1]; omega))).setCell (p := ⟨w.heap.size, k, none⟩) (Nat.le_refl _) (.slice (some ⟨w.heap.size + 1 + k, 0, none⟩) (nthL zss k).length (nthL zss k).length)
      have hsz' : (w1.setCell ⟨w.heap.size, k, none⟩ (.slice (some ⟨w.heap.size + 1 + k, 0, none⟩) (nthL zss k).length (nthL zss k).length)).heap.size = w.heap.size + 1 + (k + 1) := by simp only [World.size_setCell]; omega
      have hrows' : ∀ r, r < k + 1 → (w1.setCell ⟨w.heap.size, k, none⟩ (.slice (some ⟨w.heap.size + 1 + k, 0, none⟩) (nthL zss k).length (nthL zss k).length)).rowIs (w.heap.size + 1 + r) 2 (nthL zss r).length (fun i => .int .i64 (nth (nthL zss r) i)) := by
        intro r hr
        refine World.rowIs.setOther ?_ (by show w.heap.size + 1 + r ≠ w.heap.size; omega) _
        by_cases e : r = k
        · subst e; exact hrow1
        · exact rowIs_below (HRS.out r (by omega)) hbel1 (HRS.out r (by omega)).lt
      have HS' := Lib.hid hsz'
      have HR' := Lib.hid hrow'
      have HRS' := Lib.hid hrows'
      have HB' := Lib.hid hbel'
      clear hsz' hrow' hrows' hbel' hrow hrow1 hsz1 hbel1 e1
      go_wp2
      go_roundw
      case rel => exact ⟨k + 1, by omega, by go_num, HS'.out, HR'.out, HRS'.out, HB'.out⟩
      case measure => simp [intOf]; omega
    · have e : k = zss.length := by omega
      have HS := Lib.hid hsz
      have HR := Lib.hid hrow
      have HRS := Lib.hid hrows
      have HE := Lib.hid e
      clear hsz hrow hrows e hll
      go_wp2
      go_ret
      exact ⟨rfl, by rw [HS.out, HE.out], ⟨HR.out.congr (fun i hi => by rw [if_pos (by omega)]), fun r hr => HRS.out r (by omega)⟩, hbel⟩

end Go.Proofs.Ytnebkhelobpkpaa

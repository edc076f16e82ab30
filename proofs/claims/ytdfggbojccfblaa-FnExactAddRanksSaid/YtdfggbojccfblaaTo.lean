/- The contracts of the laws' own copies: toInt64S, toInt64SS. -/
import Derived.Test.YtdfggbojccfblaaMem
namespace Go.Proofs.Ytdfggbojccfblaa
open Go.RowKit Go.Deep

set_option maxRecDepth 100000 in
set_option maxHeartbeats 400000 in
theorem toInt64S_any (a : Option Addr) (zs : List Int) (c : Nat) (w : World) (h : Ints w a zs) (hl : zs.length ≤ 1048576) :
    Calls Try.prog 18 #[.slice a zs.length c] w fun e w' => e = .returned (.slice (some ⟨w.heap.size, 0, none⟩) zs.length zs.length) ∧
      w'.heap.size = w.heap.size + 1 ∧ w'.rowIs w.heap.size 2 zs.length (fun i => .int .i64 (nth zs i)) ∧ Below w.heap.size w w' := by
  have hmk := run_make_row' (P := Try.prog) 22 2 (.int .i64 0) 8 Try.underlying22 Try.infoInt64 rfl .i64 .i64 zs.length (by omega) (by omega)
  go_enter Try.func18, Try.ntmps18
  go_wp2
  have hr0 := World.rowIs_made w (.int .i64 0) zs.length 2
  have hB0 := (Below.refl w.heap.size w).alloc (Nat.le_refl _) (.cells (madeCells #[.int .i64 0] zs.length) 2)
  clear hmk
  go_loopw [4] (fun i wr => ∃ k : Nat, k ≤ zs.length ∧ i = .int .i64 k ∧ wr.heap.size = w.heap.size + 1 ∧ wr.rowIs w.heap.size 2 zs.length (fun i => if i < k then .int .i64 (nth zs i) else .int .i64 0) ∧ Below w.heap.size w wr)
    (fun i _ => zs.length - (intOf i).toNat)
  case atStart => exact ⟨0, Nat.zero_le _, rfl, by simp, hr0.congr (fun i _ => by simp), hB0⟩
  case round =>
    obtain ⟨k, hk, rfl, hsz, hrow, hbel⟩ := hrel
    clear hr0 hB0
    by_cases hlt : k < zs.length
    · rcases h with h | ⟨b, o, rfl, hc⟩
      · rw [h] at hlt; exact absurd hlt (Nat.not_lt_zero _)
      have h1 : wr.cell? ⟨b, o + k, none⟩ = some (.int .i64 (nth zs k)) := by
        rw [hbel.cell (p := ⟨b, o + k, none⟩) (World.block_lt_of_cell? _ _ (hc k hlt))]
        exact hc k hlt
      have h2 : wr.cell? ⟨w.heap.size, k, none⟩ = some (.int .i64 0) := by simpa using hrow.cell hlt
      have h3 : wr.frozen? ⟨w.heap.size, k, none⟩ = false := hrow.frozen k
      have hrow' := (hrow.set k (.int .i64 (nth zs k))).congr (g := fun i => if i < k + 1 then .int .i64 (nth zs i) else .int .i64 0) (fun j _ => by
        by_cases e : j = k
        · subst e; simp
        · by_cases e2 : j < k
          · simp [e, e2, show j < k + 1 by omega]
          · simp [e, e2, show ¬ j < k + 1 by omega])
      have hbel' := hbel.setCell (p := ⟨w.heap.size, k, none⟩) (Nat.le_refl _) (.int .i64 (nth zs k))
      have hsz' : (wr.setCell ⟨w.heap.size, k, none⟩ (.int .i64 (nth zs k))).heap.size = w.heap.size + 1 := by simpa using hsz
      have hS := Lib.hid hsz'
      clear hc hrow hbel hsz hsz'
      go_wp2
      go_roundw
      case rel => exact ⟨k + 1, by omega, by go_num, hS.out, hrow', hbel'⟩
      case measure => simp [intOf]; omega
    · go_wp2
      go_ret
      exact ⟨rfl, hsz, hrow.congr (fun i hi => by rw [if_pos (by omega)]), hbel⟩

end Go.Proofs.Ytdfggbojccfblaa

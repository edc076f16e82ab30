/- The model's l01Table. -/
import Derived.Test.YteifllengcacbaaDoorWts
import Derived.Test.YteifllengcacbaaDoorNt
namespace Go.Proofs.YteifllengcacbaaDoor
open Go.RowKit Go.Deep Go.Shelf
set_option linter.unusedVariables false

/-- One of the first groups is within x. -/
def tblAt (zss : List (List Int)) (k x : Nat) : Bool := anyIn (bitsUpTo zss k) x
theorem tblAt_zero (zss : List (List Int)) (x : Nat) : tblAt zss 0 x = false := by simp [tblAt, anyIn, bitsUpTo]
theorem tblAt_succ (zss : List (List Int)) (k x : Nat) : tblAt zss (k + 1) x = (tblAt zss k x || (bitsOf (nthL zss k) &&& x == bitsOf (nthL zss k))) := by
  simp [tblAt, anyIn, bitsUpTo, List.range_succ]
theorem tblAt_more {zss : List (List Int)} {k x : Nat} (h : tblAt zss k x = true) : ∀ n, tblAt zss (k + n) x = true
  | 0 => h
  | n + 1 => by rw [← Nat.add_assoc, tblAt_succ, tblAt_more h n]; rfl

set_option maxHeartbeats 1000000 in
set_option maxRecDepth 100000 in
theorem l01Table_any (h n fb : Nat) (a : Option Addr) (zss : List (List Int)) (c : Nat) (w : World) (h1 : 1 ≤ h) (h7 : h ≤ 7) (hn : n = 2 ^ h) (hbox : FamBox w fb (h : Nat) a zss.length c) (hr : Rows2 w a zss) (hl : Lens zss)
    (hg : ∀ i, i < zss.length → IsGrp (h : Nat) (nthL zss i)) :
    Calls Tryd.prog 82 #[.pointer (some ⟨fb, 0, none⟩)] w fun e w' => e = .returned (.slice (some ⟨w.heap.size, 0, none⟩) n n) ∧ Bools w' (some ⟨w.heap.size, 0, none⟩) n (tblAt zss zss.length) ∧ Below w.heap.size w w' := by
  have hn128 : n ≤ 128 := by rw [hn]; exact Nat.pow_le_pow_right (by decide) h7
  have hn1 : 1 ≤ n := by rw [hn]; exact Nat.one_le_two_pow
  have hpow : wrap64 ((2 : Int) ^ h) = (n : Int) := by rw [wrap64_two h7, hn]
  have hmk := run_make_row' (P := Tryd.prog) 96 4 (.bool false) 1 Tryd.underlying96 Tryd.infoBool rfl .i64 .i64 n (by omega) (by omega)
  obtain ⟨p0, p1⟩ := hbox
  have hfb := World.block_lt_of_cell? _ _ p0
  have HG := Lib.hid hg
  have HL := Lib.hid hl.2
  have hll := hl.1
  clear hg hn hl
  go_enter Tryd.func82, Tryd.ntmps82
  go_wp2_with fail
  have hr0 := World.rowIs_made w (.bool false) n 4
  have hB0 := (Below.refl w.heap.size w).alloc (Nat.le_refl _) (.cells (madeCells #[.bool false] n) 4)
  clear hmk
  go_loopw [4] (fun i wr => ∃ k : Nat, k ≤ n ∧ i = .int .i64 k ∧ wr.rowIs w.heap.size 4 n (fun x => .bool (if x < k then tblAt zss zss.length x else false)) ∧ Below w.heap.size w wr)
    (fun i _ => n - (intOf i).toNat)
  case atStart => exact ⟨0, Nat.zero_le _, rfl, hr0.congr (fun i _ => by simp), hB0⟩
  case round =>
    obtain ⟨k, hk, rfl, hrow, hbel⟩ := hrel
    clear hr0 hB0
    have HR := Lib.hid hrow
    have HB := Lib.hid hbel
    clear hrow hbel
    by_cases hlt : k < n
    · obtain ⟨wo, rfl⟩ : ∃ wo : World, wo = wr := ⟨_, rfl⟩
      have hki : (k : Int) < (n : Int) := by omega
      go_wp2_with fail
      go_loopw [5] (fun i wr2 => ∃ j : Nat, j ≤ zss.length ∧ i = .int .i64 j ∧ wr2.rowIs w.heap.size 4 n (fun x => .bool (if x < k then tblAt zss zss.length x else if x = k then tblAt zss j k else false)) ∧ Below w.heap.size w wr2)
        (fun i _ => zss.length - (intOf i).toNat)
      case atStart => exact ⟨0, Nat.zero_le _, rfl, HR.out.congr (fun x _ => by rw [tblAt_zero]; simp), HB.out⟩
      case round =>
        obtain ⟨j, hj, rfl, hrow, hbel⟩ := hrel
        have q0 := (hbel.cell (p := ⟨fb, 0, none⟩) hfb).trans p0
        have q1 := (hbel.cell (p := ⟨fb, 1, none⟩) hfb).trans p1
        have hck : wr.cell? ⟨w.heap.size, k, none⟩ = some (.bool (tblAt zss j k)) := by simpa using hrow.cell hlt
        have hfk : wr.frozen? ⟨w.heap.size, k, none⟩ = false := hrow.frozen k
        have HR2 := Lib.hid hrow
        have HB2 := Lib.hid hbel
        clear hrow
        by_cases hjl : j < zss.length
        · have hji : (j : Int) < (zss.length : Int) := by omega
          cases hT : tblAt zss j k with
          | true =>
            rw [hT] at hck
            have HT := Lib.hid (show tblAt zss zss.length k = true by have := tblAt_more hT (zss.length - j); rwa [Nat.add_sub_cancel' hj] at this)
            have HT0 := Lib.hid hT
            clear hT hbel
            go_wp2_with fail
            go_roundw
            case rel => exact ⟨k + 1, by omega, by go_num, HR2.out.congr (fun x _ => by
                by_cases e : x = k
                · subst e; simp [HT.out, HT0.out]
                · by_cases e2 : x < k
                  · simp [e2, show x < k + 1 by omega]
                  · simp [e, e2, show ¬ x < k + 1 by omega]), HB2.out⟩
            case measure => simp [intOf]; omega
          | false =>
            rw [hT] at hck
            have HT0 := Lib.hid hT
            clear hT
            rcases hr.below hbel (Nat.le_refl _) with h0 | ⟨b, o, rfl, hc⟩
            · rw [h0] at hjl; exact absurd hjl (Nat.not_lt_zero _)
            obtain ⟨ai, ci, hcell, hints⟩ := hc j hjl
            have HI := Lib.hid hints
            clear hc hbel hints
            have hy := bitsOf_lt (HG.out j hjl) (by omega)
            go_wp2_with fail
            refine (l01Bits_any ai (nthL zss j) ci (h : Nat) wr HI.out (HG.out j hjl) (by omega) (HL.out j hjl)).mono ?_
            rintro e w' ⟨rfl, rfl⟩
            have HV := Lib.hid (show (bits BinOp.and IntKind.i64 ((bitsOf (nthL zss j) : Nat) : Int) (k : Int) == ((bitsOf (nthL zss j) : Nat) : Int)) = tblAt zss (j + 1) k by
              rw [i64_and_nat _ _ (by omega) (by omega), beq_tell, tblAt_succ, HT0.out, Bool.false_or, ← tell_beq])
            generalize bitsOf (nthL zss j) = y at *
            go_wp2_with fail
            go_roundw
            case rel =>
              refine ⟨j + 1, by omega, by go_num, ?_, HB2.out.setCell (Nat.le_refl _) _⟩
              refine (HR2.out.set k _).congr (fun x _ => ?_)
              by_cases e : x = k
              · subst e; simp [HV.out]
              · simp [e]
            case measure => simp [intOf]; omega
        · have HJ := Lib.hid (show j = zss.length by omega)
          clear hbel
          go_wp2_with fail
          go_roundw
          case rel => exact ⟨k + 1, by omega, by go_num, HR2.out.congr (fun x _ => by
              by_cases e : x = k
              · subst e; simp [HJ.out]
              · by_cases e2 : x < k
                · simp [e2, show x < k + 1 by omega]
                · simp [e, e2, show ¬ x < k + 1 by omega]), HB2.out⟩
          case measure => simp [intOf]; omega
    · have HK := Lib.hid (show k = n by omega)
      go_wp2_with fail
      go_ret
      exact ⟨rfl, ⟨_, 0, rfl, fun i hi => by rw [Nat.zero_add, HR.out.cell hi, HK.out]; simp [hi]⟩, HB.out⟩
end Go.Proofs.YteifllengcacbaaDoor

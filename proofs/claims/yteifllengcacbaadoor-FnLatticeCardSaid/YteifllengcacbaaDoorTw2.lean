/- The program's twoTables. -/
import Derived.Test.YteifllengcacbaaDoorTwo
import Derived.Deep.RegionHeld3
namespace Go.Proofs.YteifllengcacbaaDoor
open Go.RowKit Go.Deep Go.Shelf
set_option linter.unusedVariables false


/-- What gives the tables of two families of the same holders. -/
structure GivesTwo (W : World) (h1 : Int) (z1 : List (List Int)) (h2 : Int) (z2 : List (List Int)) (e : Ending) (w' : World) : Prop where
  two : FamOk h1 z1 → FamOk h2 z2 → h1 = h2 → ∃ T1 T2, e = .returned (.tuple #[.pointer (some ⟨T1, 0, none⟩), .pointer (some ⟨T2, 0, none⟩), .int .i64 0]) ∧ TableAt w' T1 h1.toNat (tabOf h1 z1) ∧ TableAt w' T2 h2.toNat (tabOf h2 z2)
  range : FamOk h1 z1 → FamOk h2 z2 → h1 ≠ h2 → e = .returned (.tuple #[.pointer none, .pointer none, .int .i64 2])
  bad : ¬ (FamOk h1 z1 ∧ FamOk h2 z2) → e = .returned (.tuple #[.pointer none, .pointer none, .int .i64 1])
  below : Below W.heap.size W w'

set_option maxHeartbeats 4000000 in
set_option maxRecDepth 100000 in
theorem twoTables_any (h1 : Int) (a1 : Option Addr) (z1 : List (List Int)) (c1 : Nat) (h2 : Int) (a2 : Option Addr) (z2 : List (List Int)) (c2 : Nat) (w : World) (hr1 : Rows2 w a1 z1) (hs1 : Small2 z1) (hr2 : Rows2 w a2 z2) (hs2 : Small2 z2) :
    Calls Tryd.prog 54 #[.agg #[.int .i64 h1, .slice a1 z1.length c1], .agg #[.int .i64 h2, .slice a2 z2.length c2]] w (GivesTwo w h1 z1 h2 z2) := by
  have R1 := Lib.hid hr1
  have R2 := Lib.hid hr2
  have b1 := ((Below.refl w.heap.size w).alloc (Nat.le_refl _) (.cells #[.int .i64 h1, .slice a1 z1.length c1] 26)).alloc (by simp) (.cells #[.int .i64 h2, .slice a2 z2.length c2] 26)
  have b2 := b1.alloc (by simp; omega) (.map #[] 0)
  have hM : (((w.alloc (.cells #[.int .i64 h1, .slice a1 z1.length c1] 26)).alloc (.cells #[.int .i64 h2, .slice a2 z2.length c2] 26)).alloc (.map #[] 0)).heap[w.heap.size + 1 + 1]? = some (.map #[] 0) := by
    have := World.alloc_heap_new ((w.alloc (.cells #[.int .i64 h1, .slice a1 z1.length c1] 26)).alloc (.cells #[.int .i64 h2, .slice a2 z2.length c2] 26)) (.map #[] 0)
    simpa using this
  have hmk := run_makeMap_plain (P := Tryd.prog) ((w.alloc (.cells #[.int .i64 h1, .slice a1 z1.length c1] 26)).alloc (.cells #[.int .i64 h2, .slice a2 z2.length c2] 26)) 76
  have p00 : (((w.alloc (.cells #[.int .i64 h1, .slice a1 z1.length c1] 26)).alloc (.cells #[.int .i64 h2, .slice a2 z2.length c2] 26)).alloc (.map #[] 0)).cell? ⟨w.heap.size, 0, none⟩ = some (.int .i64 h1) := by simp [go_sem]
  have p01 : (((w.alloc (.cells #[.int .i64 h1, .slice a1 z1.length c1] 26)).alloc (.cells #[.int .i64 h2, .slice a2 z2.length c2] 26)).alloc (.map #[] 0)).cell? ⟨w.heap.size, 1, none⟩ = some (.slice a1 z1.length c1) := by simp [go_sem]
  have p10 : (((w.alloc (.cells #[.int .i64 h1, .slice a1 z1.length c1] 26)).alloc (.cells #[.int .i64 h2, .slice a2 z2.length c2] 26)).alloc (.map #[] 0)).cell? ⟨w.heap.size + 1, 0, none⟩ = some (.int .i64 h2) := by simp [go_sem]
  have p11 : (((w.alloc (.cells #[.int .i64 h1, .slice a1 z1.length c1] 26)).alloc (.cells #[.int .i64 h2, .slice a2 z2.length c2] 26)).alloc (.map #[] 0)).cell? ⟨w.heap.size + 1, 1, none⟩ = some (.slice a2 z2.length c2) := by simp [go_sem]
  have HB := Lib.hid b2
  have HM := Lib.hid hM
  have hww : w.heap.size ≤ w.heap.size + 1 + 1 := by omega
  clear hr1 hr2 b1 b2 hM
  by_cases f1 : FamOk h1 z1
  · have HF1 := Lib.hid f1
    by_cases f2 : FamOk h2 z2
    · have HF2 := Lib.hid f2
      by_cases heq : h1 = h2
      · have hne : (h1 != h2) = false := by simp [heq]
        have HE := Lib.hid heq
        clear f1 f2 heq
        go_enter Tryd.func54, Tryd.ntmps54
        go_wp2_with fail
        obtain ⟨W0, hW0⟩ : ∃ W0, ((w.alloc (.cells #[.int .i64 h1, .slice a1 z1.length c1] 26)).alloc (.cells #[.int .i64 h2, .slice a2 z2.length c2] 26)).alloc (.map #[] 0) = W0 := ⟨_, rfl⟩
        rw [hW0] at HB HM p00 p01 p10 p11
        simp only [hW0]
        have hrl := (Array.getElem?_eq_some_iff.1 HM.out).1
        clear hW0 hmk
        have HC1 := Lib.hid (shelfTable_any (w.heap.size + 1 + 1) 0 h1 a1 z1 c1 W0.drew (((drew_step W0).block _ hrl).trans HM.out) (R1.out.below (HB.out.trans ((drew_step W0).mono HB.out.size)) (Nat.le_refl _)) hs1)
        go_region_held3 (fun w' => w'.cell? ⟨w.heap.size, 0, none⟩ = some (.int .i64 h1) ∧ w'.cell? ⟨w.heap.size, 1, none⟩ = some (.slice a1 z1.length c1) ∧ w'.cell? ⟨w.heap.size + 1, 0, none⟩ = some (.int .i64 h2) ∧ w'.cell? ⟨w.heap.size + 1, 1, none⟩ = some (.slice a2 z2.length c2)) (first | exact ⟨q00, q01, q10, q11⟩ | exact ⟨b00, b01, b10, b11⟩ | exact ⟨cell_step (drew_step _) p00, cell_step (drew_step _) p01, cell_step (drew_step _) p10, cell_step (drew_step _) p11⟩) (first | (go_at_call_of 66 h1; refine HC1.out.mono ?_; rintro e w3 ⟨hy, -, hb⟩; obtain ⟨T1, rfl, hT1, ht1, hm1⟩ := hy HF1.out; have HT1 := Lib.hid ht1; have HM3 := Lib.hid hm1; have HNE := Lib.hid (show w.heap.size + 1 + 1 ≠ T1 by have := hrl; have : W0.drew.heap.size = W0.heap.size := rfl; omega); have D3 := Lib.hid (HB.out.trans ((((drew_step W0).mono (Nat.le_of_lt hrl)).trans hb).mono hww)); have b00 := (hb.cell (p := ⟨w.heap.size, 0, none⟩) (by show w.heap.size < w.heap.size + 1 + 1; omega)).trans (cell_step (drew_step W0) p00); have b01 := (hb.cell (p := ⟨w.heap.size, 1, none⟩) (by show w.heap.size < w.heap.size + 1 + 1; omega)).trans (cell_step (drew_step W0) p01); have b10 := (hb.cell (p := ⟨w.heap.size + 1, 0, none⟩) (by show w.heap.size + 1 < w.heap.size + 1 + 1; omega)).trans (cell_step (drew_step W0) p10); have b11 := (hb.cell (p := ⟨w.heap.size + 1, 1, none⟩) (by show w.heap.size + 1 < w.heap.size + 1 + 1; omega)).trans (cell_step (drew_step W0) p11); clear hy hb ht1 hm1) | (go_at_call_of 66 h2; refine (shelfTable2_any (w.heap.size + 1 + 1) 0 T1 h1 z1 h2 a2 z2 c2 _ HM3.out HF1.out HT1.out HNE.out (R2.out.below D3.out (Nat.le_refl _)) hs2).mono ?_; rintro e w4 ⟨hy2, -, ht4, hb4⟩; obtain ⟨T2, rfl, ht2⟩ := hy2 HF2.out; have HT4 := Lib.hid ht4; have HT2 := Lib.hid ht2; have D4 := Lib.hid (D3.out.trans (hb4.mono hww)); have q00 := (hb4.cell (p := ⟨w.heap.size, 0, none⟩) (by show w.heap.size < w.heap.size + 1 + 1; omega)).trans (b00); have q01 := (hb4.cell (p := ⟨w.heap.size, 1, none⟩) (by show w.heap.size < w.heap.size + 1 + 1; omega)).trans (b01); have q10 := (hb4.cell (p := ⟨w.heap.size + 1, 0, none⟩) (by show w.heap.size + 1 < w.heap.size + 1 + 1; omega)).trans (b10); have q11 := (hb4.cell (p := ⟨w.heap.size + 1, 1, none⟩) (by show w.heap.size + 1 < w.heap.size + 1 + 1; omega)).trans (b11); clear hb4))
        all_goals (go_wp2_with fail; go_ret3; exact ⟨fun _ _ _ => ⟨T1, T2, rfl, HT4.out, HT2.out⟩, fun _ _ k => absurd HE.out k, fun k => absurd ⟨HF1.out, HF2.out⟩ k, D4.out⟩)
      · have hne : (h1 != h2) = true := by simp [heq]
        have HE := Lib.hid heq
        clear f1 f2 heq
        go_enter Tryd.func54, Tryd.ntmps54
        go_wp2_with fail
        obtain ⟨W0, hW0⟩ : ∃ W0, ((w.alloc (.cells #[.int .i64 h1, .slice a1 z1.length c1] 26)).alloc (.cells #[.int .i64 h2, .slice a2 z2.length c2] 26)).alloc (.map #[] 0) = W0 := ⟨_, rfl⟩
        rw [hW0] at HB HM p00 p01 p10 p11
        simp only [hW0]
        have hrl := (Array.getElem?_eq_some_iff.1 HM.out).1
        clear hW0 hmk
        have HC1 := Lib.hid (shelfTable_any (w.heap.size + 1 + 1) 0 h1 a1 z1 c1 W0.drew (((drew_step W0).block _ hrl).trans HM.out) (R1.out.below (HB.out.trans ((drew_step W0).mono HB.out.size)) (Nat.le_refl _)) hs1)
        go_region_held3 (fun w' => w'.cell? ⟨w.heap.size, 0, none⟩ = some (.int .i64 h1) ∧ w'.cell? ⟨w.heap.size, 1, none⟩ = some (.slice a1 z1.length c1) ∧ w'.cell? ⟨w.heap.size + 1, 0, none⟩ = some (.int .i64 h2) ∧ w'.cell? ⟨w.heap.size + 1, 1, none⟩ = some (.slice a2 z2.length c2)) (first | exact ⟨q00, q01, q10, q11⟩ | exact ⟨b00, b01, b10, b11⟩ | exact ⟨cell_step (drew_step _) p00, cell_step (drew_step _) p01, cell_step (drew_step _) p10, cell_step (drew_step _) p11⟩) (first | (go_at_call_of 66 h1; refine HC1.out.mono ?_; rintro e w3 ⟨hy, -, hb⟩; obtain ⟨T1, rfl, hT1, ht1, hm1⟩ := hy HF1.out; have HT1 := Lib.hid ht1; have HM3 := Lib.hid hm1; have HNE := Lib.hid (show w.heap.size + 1 + 1 ≠ T1 by have := hrl; have : W0.drew.heap.size = W0.heap.size := rfl; omega); have D3 := Lib.hid (HB.out.trans ((((drew_step W0).mono (Nat.le_of_lt hrl)).trans hb).mono hww)); have b00 := (hb.cell (p := ⟨w.heap.size, 0, none⟩) (by show w.heap.size < w.heap.size + 1 + 1; omega)).trans (cell_step (drew_step W0) p00); have b01 := (hb.cell (p := ⟨w.heap.size, 1, none⟩) (by show w.heap.size < w.heap.size + 1 + 1; omega)).trans (cell_step (drew_step W0) p01); have b10 := (hb.cell (p := ⟨w.heap.size + 1, 0, none⟩) (by show w.heap.size + 1 < w.heap.size + 1 + 1; omega)).trans (cell_step (drew_step W0) p10); have b11 := (hb.cell (p := ⟨w.heap.size + 1, 1, none⟩) (by show w.heap.size + 1 < w.heap.size + 1 + 1; omega)).trans (cell_step (drew_step W0) p11); clear hy hb ht1 hm1) | (go_at_call_of 66 h2; refine (shelfTable2_any (w.heap.size + 1 + 1) 0 T1 h1 z1 h2 a2 z2 c2 _ HM3.out HF1.out HT1.out HNE.out (R2.out.below D3.out (Nat.le_refl _)) hs2).mono ?_; rintro e w4 ⟨hy2, -, ht4, hb4⟩; obtain ⟨T2, rfl, ht2⟩ := hy2 HF2.out; have HT4 := Lib.hid ht4; have HT2 := Lib.hid ht2; have D4 := Lib.hid (D3.out.trans (hb4.mono hww)); have q00 := (hb4.cell (p := ⟨w.heap.size, 0, none⟩) (by show w.heap.size < w.heap.size + 1 + 1; omega)).trans (b00); have q01 := (hb4.cell (p := ⟨w.heap.size, 1, none⟩) (by show w.heap.size < w.heap.size + 1 + 1; omega)).trans (b01); have q10 := (hb4.cell (p := ⟨w.heap.size + 1, 0, none⟩) (by show w.heap.size + 1 < w.heap.size + 1 + 1; omega)).trans (b10); have q11 := (hb4.cell (p := ⟨w.heap.size + 1, 1, none⟩) (by show w.heap.size + 1 < w.heap.size + 1 + 1; omega)).trans (b11); clear hb4))
        all_goals (go_wp2_with fail; go_ret3; exact ⟨fun _ _ k => absurd k HE.out, fun _ _ _ => rfl, fun k => absurd ⟨HF1.out, HF2.out⟩ k, D4.out⟩)
    · have HF2 := Lib.hid f2
      clear f1 f2
      go_enter Tryd.func54, Tryd.ntmps54
      go_wp2_with fail
      obtain ⟨W0, hW0⟩ : ∃ W0, ((w.alloc (.cells #[.int .i64 h1, .slice a1 z1.length c1] 26)).alloc (.cells #[.int .i64 h2, .slice a2 z2.length c2] 26)).alloc (.map #[] 0) = W0 := ⟨_, rfl⟩
      rw [hW0] at HB HM p00 p01 p10 p11
      simp only [hW0]
      have hrl := (Array.getElem?_eq_some_iff.1 HM.out).1
      clear hW0 hmk
      have HC1 := Lib.hid (shelfTable_any (w.heap.size + 1 + 1) 0 h1 a1 z1 c1 W0.drew (((drew_step W0).block _ hrl).trans HM.out) (R1.out.below (HB.out.trans ((drew_step W0).mono HB.out.size)) (Nat.le_refl _)) hs1)
      go_region_held3 (fun w' => w'.cell? ⟨w.heap.size, 0, none⟩ = some (.int .i64 h1) ∧ w'.cell? ⟨w.heap.size, 1, none⟩ = some (.slice a1 z1.length c1) ∧ w'.cell? ⟨w.heap.size + 1, 0, none⟩ = some (.int .i64 h2) ∧ w'.cell? ⟨w.heap.size + 1, 1, none⟩ = some (.slice a2 z2.length c2)) (first | exact ⟨q00, q01, q10, q11⟩ | exact ⟨b00, b01, b10, b11⟩ | exact ⟨cell_step (drew_step _) p00, cell_step (drew_step _) p01, cell_step (drew_step _) p10, cell_step (drew_step _) p11⟩) (first | (go_at_call_of 66 h1; refine HC1.out.mono ?_; rintro e w3 ⟨hy, -, hb⟩; obtain ⟨T1, rfl, hT1, ht1, hm1⟩ := hy HF1.out; have HT1 := Lib.hid ht1; have HM3 := Lib.hid hm1; have HNE := Lib.hid (show w.heap.size + 1 + 1 ≠ T1 by have := hrl; have : W0.drew.heap.size = W0.heap.size := rfl; omega); have D3 := Lib.hid (HB.out.trans ((((drew_step W0).mono (Nat.le_of_lt hrl)).trans hb).mono hww)); have b00 := (hb.cell (p := ⟨w.heap.size, 0, none⟩) (by show w.heap.size < w.heap.size + 1 + 1; omega)).trans (cell_step (drew_step W0) p00); have b01 := (hb.cell (p := ⟨w.heap.size, 1, none⟩) (by show w.heap.size < w.heap.size + 1 + 1; omega)).trans (cell_step (drew_step W0) p01); have b10 := (hb.cell (p := ⟨w.heap.size + 1, 0, none⟩) (by show w.heap.size + 1 < w.heap.size + 1 + 1; omega)).trans (cell_step (drew_step W0) p10); have b11 := (hb.cell (p := ⟨w.heap.size + 1, 1, none⟩) (by show w.heap.size + 1 < w.heap.size + 1 + 1; omega)).trans (cell_step (drew_step W0) p11); clear hy hb ht1 hm1) | (go_at_call_of 66 h2; refine (shelfTable2_any (w.heap.size + 1 + 1) 0 T1 h1 z1 h2 a2 z2 c2 _ HM3.out HF1.out HT1.out HNE.out (R2.out.below D3.out (Nat.le_refl _)) hs2).mono ?_; rintro e w4 ⟨-, hn2, ht4, hb4⟩; obtain rfl := hn2 HF2.out; have D4 := Lib.hid (D3.out.trans (hb4.mono hww)); have q00 := (hb4.cell (p := ⟨w.heap.size, 0, none⟩) (by show w.heap.size < w.heap.size + 1 + 1; omega)).trans (b00); have q01 := (hb4.cell (p := ⟨w.heap.size, 1, none⟩) (by show w.heap.size < w.heap.size + 1 + 1; omega)).trans (b01); have q10 := (hb4.cell (p := ⟨w.heap.size + 1, 0, none⟩) (by show w.heap.size + 1 < w.heap.size + 1 + 1; omega)).trans (b10); have q11 := (hb4.cell (p := ⟨w.heap.size + 1, 1, none⟩) (by show w.heap.size + 1 < w.heap.size + 1 + 1; omega)).trans (b11); clear hb4))
      all_goals (go_wp2_with fail; go_ret3; exact ⟨fun _ k _ => absurd k HF2.out, fun _ k _ => absurd k HF2.out, fun _ => rfl, D4.out⟩)
  · have HF1 := Lib.hid f1
    by_cases f2 : FamOk h2 z2
    · have HF2 := Lib.hid f2
      clear f1 f2
      go_enter Tryd.func54, Tryd.ntmps54
      go_wp2_with fail
      obtain ⟨W0, hW0⟩ : ∃ W0, ((w.alloc (.cells #[.int .i64 h1, .slice a1 z1.length c1] 26)).alloc (.cells #[.int .i64 h2, .slice a2 z2.length c2] 26)).alloc (.map #[] 0) = W0 := ⟨_, rfl⟩
      rw [hW0] at HB HM p00 p01 p10 p11
      simp only [hW0]
      have hrl := (Array.getElem?_eq_some_iff.1 HM.out).1
      clear hW0 hmk
      have HC1 := Lib.hid (shelfTable_any (w.heap.size + 1 + 1) 0 h1 a1 z1 c1 W0.drew (((drew_step W0).block _ hrl).trans HM.out) (R1.out.below (HB.out.trans ((drew_step W0).mono HB.out.size)) (Nat.le_refl _)) hs1)
      go_region_held3 (fun w' => w'.cell? ⟨w.heap.size, 0, none⟩ = some (.int .i64 h1) ∧ w'.cell? ⟨w.heap.size, 1, none⟩ = some (.slice a1 z1.length c1) ∧ w'.cell? ⟨w.heap.size + 1, 0, none⟩ = some (.int .i64 h2) ∧ w'.cell? ⟨w.heap.size + 1, 1, none⟩ = some (.slice a2 z2.length c2)) (first | exact ⟨q00, q01, q10, q11⟩ | exact ⟨b00, b01, b10, b11⟩ | exact ⟨cell_step (drew_step _) p00, cell_step (drew_step _) p01, cell_step (drew_step _) p10, cell_step (drew_step _) p11⟩) (first | (go_at_call_of 66 h1; refine HC1.out.mono ?_; rintro e w3 ⟨-, hn, hb⟩; obtain ⟨rfl, hm1⟩ := hn HF1.out; have HM3 := Lib.hid hm1; have D3 := Lib.hid (HB.out.trans ((((drew_step W0).mono (Nat.le_of_lt hrl)).trans hb).mono hww)); have b00 := (hb.cell (p := ⟨w.heap.size, 0, none⟩) (by show w.heap.size < w.heap.size + 1 + 1; omega)).trans (cell_step (drew_step W0) p00); have b01 := (hb.cell (p := ⟨w.heap.size, 1, none⟩) (by show w.heap.size < w.heap.size + 1 + 1; omega)).trans (cell_step (drew_step W0) p01); have b10 := (hb.cell (p := ⟨w.heap.size + 1, 0, none⟩) (by show w.heap.size + 1 < w.heap.size + 1 + 1; omega)).trans (cell_step (drew_step W0) p10); have b11 := (hb.cell (p := ⟨w.heap.size + 1, 1, none⟩) (by show w.heap.size + 1 < w.heap.size + 1 + 1; omega)).trans (cell_step (drew_step W0) p11); clear hn hb hm1) | (go_at_call_of 66 h2; refine (shelfTable_any (w.heap.size + 1 + 1) 0 h2 a2 z2 c2 _ HM3.out (R2.out.below D3.out (Nat.le_refl _)) hs2).mono ?_; rintro e w4 ⟨hy2, hn2, hb4⟩; obtain ⟨T2, rfl, -, -, -⟩ := hy2 HF2.out; have D4 := Lib.hid (D3.out.trans (hb4.mono hww)); have q00 := (hb4.cell (p := ⟨w.heap.size, 0, none⟩) (by show w.heap.size < w.heap.size + 1 + 1; omega)).trans (b00); have q01 := (hb4.cell (p := ⟨w.heap.size, 1, none⟩) (by show w.heap.size < w.heap.size + 1 + 1; omega)).trans (b01); have q10 := (hb4.cell (p := ⟨w.heap.size + 1, 0, none⟩) (by show w.heap.size + 1 < w.heap.size + 1 + 1; omega)).trans (b10); have q11 := (hb4.cell (p := ⟨w.heap.size + 1, 1, none⟩) (by show w.heap.size + 1 < w.heap.size + 1 + 1; omega)).trans (b11); clear hb4))
      all_goals (go_wp2_with fail; go_ret3; exact ⟨fun k _ _ => absurd k HF1.out, fun k _ _ => absurd k HF1.out, fun _ => rfl, D4.out⟩)
    · have HF2 := Lib.hid f2
      clear f1 f2
      go_enter Tryd.func54, Tryd.ntmps54
      go_wp2_with fail
      obtain ⟨W0, hW0⟩ : ∃ W0, ((w.alloc (.cells #[.int .i64 h1, .slice a1 z1.length c1] 26)).alloc (.cells #[.int .i64 h2, .slice a2 z2.length c2] 26)).alloc (.map #[] 0) = W0 := ⟨_, rfl⟩
      rw [hW0] at HB HM p00 p01 p10 p11
      simp only [hW0]
      have hrl := (Array.getElem?_eq_some_iff.1 HM.out).1
      clear hW0 hmk
      have HC1 := Lib.hid (shelfTable_any (w.heap.size + 1 + 1) 0 h1 a1 z1 c1 W0.drew (((drew_step W0).block _ hrl).trans HM.out) (R1.out.below (HB.out.trans ((drew_step W0).mono HB.out.size)) (Nat.le_refl _)) hs1)
      go_region_held3 (fun w' => w'.cell? ⟨w.heap.size, 0, none⟩ = some (.int .i64 h1) ∧ w'.cell? ⟨w.heap.size, 1, none⟩ = some (.slice a1 z1.length c1) ∧ w'.cell? ⟨w.heap.size + 1, 0, none⟩ = some (.int .i64 h2) ∧ w'.cell? ⟨w.heap.size + 1, 1, none⟩ = some (.slice a2 z2.length c2)) (first | exact ⟨q00, q01, q10, q11⟩ | exact ⟨b00, b01, b10, b11⟩ | exact ⟨cell_step (drew_step _) p00, cell_step (drew_step _) p01, cell_step (drew_step _) p10, cell_step (drew_step _) p11⟩) (first | (go_at_call_of 66 h1; refine HC1.out.mono ?_; rintro e w3 ⟨-, hn, hb⟩; obtain ⟨rfl, hm1⟩ := hn HF1.out; have HM3 := Lib.hid hm1; have D3 := Lib.hid (HB.out.trans ((((drew_step W0).mono (Nat.le_of_lt hrl)).trans hb).mono hww)); have b00 := (hb.cell (p := ⟨w.heap.size, 0, none⟩) (by show w.heap.size < w.heap.size + 1 + 1; omega)).trans (cell_step (drew_step W0) p00); have b01 := (hb.cell (p := ⟨w.heap.size, 1, none⟩) (by show w.heap.size < w.heap.size + 1 + 1; omega)).trans (cell_step (drew_step W0) p01); have b10 := (hb.cell (p := ⟨w.heap.size + 1, 0, none⟩) (by show w.heap.size + 1 < w.heap.size + 1 + 1; omega)).trans (cell_step (drew_step W0) p10); have b11 := (hb.cell (p := ⟨w.heap.size + 1, 1, none⟩) (by show w.heap.size + 1 < w.heap.size + 1 + 1; omega)).trans (cell_step (drew_step W0) p11); clear hn hb hm1) | (go_at_call_of 66 h2; refine (shelfTable_any (w.heap.size + 1 + 1) 0 h2 a2 z2 c2 _ HM3.out (R2.out.below D3.out (Nat.le_refl _)) hs2).mono ?_; rintro e w4 ⟨hy2, hn2, hb4⟩; obtain ⟨rfl, -⟩ := hn2 HF2.out; have D4 := Lib.hid (D3.out.trans (hb4.mono hww)); have q00 := (hb4.cell (p := ⟨w.heap.size, 0, none⟩) (by show w.heap.size < w.heap.size + 1 + 1; omega)).trans (b00); have q01 := (hb4.cell (p := ⟨w.heap.size, 1, none⟩) (by show w.heap.size < w.heap.size + 1 + 1; omega)).trans (b01); have q10 := (hb4.cell (p := ⟨w.heap.size + 1, 0, none⟩) (by show w.heap.size + 1 < w.heap.size + 1 + 1; omega)).trans (b10); have q11 := (hb4.cell (p := ⟨w.heap.size + 1, 1, none⟩) (by show w.heap.size + 1 < w.heap.size + 1 + 1; omega)).trans (b11); clear hb4))
      all_goals (go_wp2_with fail; go_ret3; exact ⟨fun k _ _ => absurd k HF1.out, fun k _ _ => absurd k HF1.out, fun _ => rfl, D4.out⟩)
end Go.Proofs.YteifllengcacbaaDoor

/- RenameHolders, the model's: l01Renamed. -/
import Derived.Test.YtnebkhelobpkpaaDoorHas
namespace Go.Proofs.YtnebkhelobpkpaaDoor
open Go.RowKit Go.Deep Go.Shelf
set_option linter.unusedVariables false

theorem bitsTo_lt2' {m : Nat} {l : List Int} (h : IsGrp (m : Int) l) : ∀ k, k ≤ l.length → bitsTo l k < 2 ^ m
  | 0, _ => by simp [bitsTo, Nat.pow_pos]
  | k + 1, hk => by
    have h1 := bitsTo_lt2' h k (by omega)
    obtain ⟨h2, h3, _⟩ := h k (by omega)
    exact Nat.or_lt_two_pow h1 (Nat.pow_lt_pow_right (by omega) (by omega))
theorem has_phi {m j : Nat} {row zs : List Int} (hg : IsGrp (m : Int) row) (ho : OrdOk (m : Int) zs) (hj : j < zs.length) : tell (HasIn row (nth zs j)) = (phiN (oOf zs) (bitsOf row) m).testBit j := by
  have hb := bitsTo_bit row (oOf zs j) row.length
  have hz := ho.2.1 j hj
  have hlm : zs.length = m := by have := ho.1; omega
  have e : HasIn row (nth zs j) ↔ (bitsOf row).testBit (oOf zs j) = true := by
    unfold bitsOf
    rw [hb]
    constructor
    · rintro ⟨i, h1, h2⟩; exact ⟨i, h1, by rw [h2]; rfl⟩
    · rintro ⟨i, h1, h2⟩
      have := (hg i h1).1
      unfold oOf at h2
      exact ⟨i, h1, by omega⟩
  have e2 := phi_bit (oOf zs) (bitsOf row) j m
  cases hx : (phiN (oOf zs) (bitsOf row) m).testBit j with
  | true => exact tell_true (e.2 (e2.1 hx).2)
  | false => exact tell_false fun q => by rw [e2.2 ⟨by omega, e.1 q⟩] at hx; cases hx
theorem listTo_below {x m : Nat} (hx : x < 2 ^ m) (h7 : m ≤ 7) : listTo x m = listOf x := by
  have : ∀ d, listTo x (m + d) = listTo x m := fun d => by
    induction d with
    | zero => rfl
    | succ d ih =>
      rw [← Nat.add_assoc, listTo_miss, ih]
      cases hb : x.testBit (m + d) with
      | false => rfl
      | true => have := bit_lt hx hb; omega
  have h2 := this (7 - m)
  rw [show m + (7 - m) = 7 by omega] at h2
  exact h2.symm
theorem fam_bits {m : Nat} {zss : List (List Int)} (hf : FamOk (m : Int) zss) : (∀ x ∈ bitsUpTo zss zss.length, x < 2 ^ m) ∧
    (∀ x ∈ bitsUpTo zss zss.length, ∀ y ∈ bitsUpTo zss zss.length, (∀ i, x.testBit i = true → y.testBit i = true) → x = y) ∧ (bitsUpTo zss zss.length).Nodup := by
  have hm : ∀ x, x ∈ bitsUpTo zss zss.length → ∃ i, i < zss.length ∧ bitsOf (nthL zss i) = x := fun x hx => by
    simp only [bitsUpTo, List.mem_map, List.mem_range] at hx
    exact hx
  refine ⟨fun x hx => ?_, fun x hx y hy hs => ?_, ?_⟩
  · obtain ⟨i, h1, rfl⟩ := hm x hx
    exact bitsTo_lt2' (hf.2.1 i h1).1 _ (Nat.le_refl _)
  · obtain ⟨i, h1, rfl⟩ := hm x hx
    obtain ⟨j, h2, rfl⟩ := hm y hy
    by_cases e : i = j
    · rw [e]
    · exact absurd (sub_iff.2 hs) (hf.2.2 i h1 j h2 e)
  · unfold bitsUpTo
    rw [List.Nodup, List.pairwise_map]
    refine List.Pairwise.imp_of_mem (R := fun a b => a < b) (fun {i j} h1 h2 hlt e => ?_) List.pairwise_lt_range
    exact hf.2.2 i (List.mem_range.1 h1) j (List.mem_range.1 h2) (by omega) (by unfold Part; rw [e, Nat.and_self])
theorem fam_len {m : Nat} {zss : List (List Int)} (h7 : m ≤ 7) (hf : FamOk (m : Int) zss) : zss.length ≤ 128 := by
  obtain ⟨h1, -, h3⟩ := fam_bits hf
  have hp : (bitsUpTo zss zss.length).Perm ((List.range 128).filter fun x => decide (x ∈ bitsUpTo zss zss.length)) := by
    refine (List.perm_ext_iff_of_nodup h3 (List.Pairwise.sublist List.filter_sublist List.nodup_range)).2 fun x => ?_
    rw [List.mem_filter, List.mem_range, decide_eq_true_eq]
    constructor
    · intro h
      have : (2 : Nat) ^ m ≤ 2 ^ 7 := Nat.pow_le_pow_right (by decide) h7
      exact ⟨by have := h1 x h; omega, h⟩
    · exact fun h => h.2
  have h4 := hp.length_eq
  rw [bitsUpTo_len] at h4
  rw [h4]
  exact Nat.le_trans (List.length_filter_le _ _) (by simp)
theorem bitsUpTo_next (zss : List (List Int)) (k : Nat) : bitsUpTo zss (k + 1) = bitsUpTo zss k ++ [bitsOf (nthL zss k)] := by simp [bitsUpTo, List.range_succ]

set_option maxHeartbeats 4000000 in
set_option maxRecDepth 100000 in
theorem l01Renamed_any (m fb : Nat) (a : Option Addr) (zss : List (List Int)) (c : Nat) (b : Option Addr) (zs : List Int) (d : Nat) (w : World) (hbox : FamBox w fb (m : Nat) a zss.length c) (hr : Rows2 w a zss) (hl : Lens zss) (hio : Ints w b zs) (hf : FamOk (m : Int) zss) (ho : OrdOk (m : Int) zs) :
    Calls Tryd.prog 79 #[.pointer (some ⟨fb, 0, none⟩), .slice b zs.length d] w (GivesFamR w (m : Nat) (famOf m (renB zs zss m))) := by
  have m7 : m ≤ 7 := by have := hf.1.2; omega
  have hlm : zs.length = m := by have := ho.1; omega
  have hlz := fam_len m7 hf
  have hfb := World.block_lt_of_cell? _ _ hbox.1
  have HX := Lib.hid hbox
  have HROWS := Lib.hid hr
  have HL := Lib.hid hl
  have HIO := Lib.hid hio
  have HFO := Lib.hid hf
  have HOR := Lib.hid ho
  have HLM := Lib.hid hlm
  clear hbox hr hl hio hf ho hlm
  obtain ⟨i0, hi, hz0, hz1, hz2⟩ := info_parts Tryd.infoInt64
  obtain ⟨j0, ji, jz0, jz1, jz2⟩ := info_parts Tryd.infoInt64S
  go_enter Tryd.func79, Tryd.ntmps79
  go_wp2_with fail
  have hB0 := ((Below.refl w.heap.size w).alloc (Nat.le_refl _) (.cells #[.int .i64 0, .slice none 0 0] 29)).alloc (by simp) (.cells #[] 26)
  have hF0 : ((w.alloc (.cells #[.int .i64 0, .slice none 0 0] 29)).alloc (.cells #[] 26)).heap[w.heap.size]? = some (.cells #[.int .i64 0, .slice none 0 0] 29) := (Below.heap_alloc _ _ _ (by simp)).trans (World.alloc_heap_new w _)
  have hR0 : ((w.alloc (.cells #[.int .i64 0, .slice none 0 0] 29)).alloc (.cells #[] 26)).ownsRow (w.heap.size + 1) 26 1 (.slice (some ⟨w.heap.size + 1, 0, none⟩) 0 0) 0 [] := by
    have := World.ownsRow_made (w.alloc (.cells #[.int .i64 0, .slice none 0 0] 29)) #[] 0 (e := 26) (size := 1) (Nat.le_refl _) (by unfold maxLen; omega) rfl
    simpa using this
  generalize ((w.alloc (.cells #[.int .i64 0, .slice none 0 0] 29)).alloc (.cells #[] 26)) = w1 at *
  go_loopw [5, 6] (fun v i wr => ∃ (k : Nat) (g cap : Nat) (ps : List (Value × List Int)), k ≤ zss.length ∧ i = .int .i64 k ∧ v = .slice (some ⟨g, 0, none⟩) ps.length cap ∧ ps.map Prod.snd = (bitsUpTo zss k).map (fun x => listOf (phiN (oOf zs) x m)) ∧ wr.ownsRow (w.heap.size + 1) 26 1 (.slice (some ⟨g, 0, none⟩) ps.length cap) ps.length (ps.map Prod.fst) ∧ PairsIn wr (w.heap.size + 1) ps ∧ Below w.heap.size w wr ∧ wr.heap[w.heap.size]? = some (.cells #[.int .i64 0, .slice none 0 0] 29))
    (fun _ i _ => zss.length - (intOf i).toNat)
  case atStart => exact ⟨0, _, _, [], by omega, rfl, rfl, rfl, hR0, (fun q hq => by cases hq), hB0, hF0⟩
  case round =>
    obtain ⟨k, g, cap, ps, hk, rfl, rfl, hps, hrow, hin, hbel, hfam⟩ := hrel
    clear hB0 hF0 hR0
    have hpl : ps.length ≤ k := by
      have := congrArg List.length hps
      rw [List.length_map, List.length_map, bitsUpTo_len] at this
      omega
    have HP := Lib.hid hps
    have HR := Lib.hid hrow
    have HI := Lib.hid hin
    have HB := Lib.hid hbel
    have HF := Lib.hid hfam
    have hszr := (Array.getElem?_eq_some_iff.1 hfam).1
    have p0 := (hbel.cell (p := ⟨fb, 0, none⟩) hfb).trans HX.out.1
    have p1 := (hbel.cell (p := ⟨fb, 1, none⟩) hfb).trans HX.out.2
    clear hps hrow hin hbel hfam
    by_cases hlt : k < zss.length
    · obtain ⟨wo, rfl⟩ : ∃ wo : World, wo = wr := ⟨_, rfl⟩
      have hki : (k : Int) < (zss.length : Int) := by omega
      have HG := Lib.hid (HFO.out.2.1 k hlt).1
      have HXL := Lib.hid (show phiN (oOf zs) (bitsOf (nthL zss k)) m < 2 ^ m from phi_lt _ _ _)
      have HHP := Lib.hid (fun j (hj : j < zs.length) => has_phi (m := m) (j := j) (row := nthL zss k) (zs := zs) HG.out HOR.out hj)
      have HBN := Lib.hid (bitsUpTo_next zss k)
      obtain ⟨X, hX⟩ : ∃ X, phiN (oOf zs) (bitsOf (nthL zss k)) m = X := ⟨_, rfl⟩
      rw [hX] at HXL HHP
      have HXE := Lib.hid hX
      clear hX
      go_wp2_with fail
      have hown : OwnI (wo.alloc (.cells #[] 2)) wo.heap.size (.slice (some ⟨wo.heap.size, 0, none⟩) 0 0) [] := World.ownsRow_made wo #[] 0 (Nat.le_refl _) (by unfold maxLen; omega) rfl
      have hb1 := (Below.refl wo.heap.size wo).alloc (Nat.le_refl _) (.cells #[] 2)
      generalize (Value.slice (some ⟨wo.heap.size, 0, none⟩) 0 0) = v0 at *
      go_loopw [7, 8] (fun v i wr2 => ∃ j : Nat, j ≤ zs.length ∧ i = .int .i64 j ∧ OwnI wr2 wo.heap.size v (listTo X j) ∧ Below wo.heap.size wo wr2)
        (fun _ i _ => zs.length - (intOf i).toNat)
      case atStart => exact ⟨0, by omega, rfl, hown, hb1⟩
      case round =>
        obtain ⟨j, hj, rfl, hown2, hb2⟩ := hrel
        have HO := Lib.hid hown2
        have HBW := Lib.hid hb2
        have hlk := listTo_len X j
        have hj7 : j ≤ 7 := by have := HLM.out; omega
        have hszw := hb2.size
        clear hown hb1
        by_cases hjl : j < zs.length
        · have q0 := cell_step hb2 p0
          have q1 := cell_step hb2 p1
          have hbw := HB.out.trans (hb2.mono (Nat.le_of_lt hszr))
          have hji : (j : Int) < (zs.length : Int) := by omega
          rcases HROWS.out.step hbw with h0 | ⟨b2, o2, rfl, hc⟩
          · rw [h0] at hlt; exact absurd hlt (Nat.not_lt_zero _)
          obtain ⟨ai, ci, hcell, hints⟩ := hc k hlt
          rcases HIO.out.step hbw with h0 | ⟨b3, o3, rfl, hcz⟩
          · rw [h0] at hjl; exact absurd hjl (Nat.not_lt_zero _)
          have hcellz := hcz j hjl
          have HIR := Lib.hid hints
          have hll := HL.out.2 k hlt
          have hhp := HHP.out j hjl
          clear hc hcz hbw hints hown2 hb2 p0 p1
          cases hbit : X.testBit j with
          | true =>
            have HT := Lib.hid hbit
            have HC := Lib.hid (fun W (hW : Quiet wr W) => (l00Has_any ai (nthL zss k) ci (nth zs j) W (HIR.out.quiet hW) hll))
            rw [hhp, hbit] at HC
            clear hbit hhp
            go_wp2
            go_quiet ((go_at_call 121; exact Calls.quiet_of_same (swapped (HC.out _ ⟨_, rfl⟩))))
            rename_i nq
            have hdN : Below wr.heap.size wr (wr.drewN nq) := below_drewN (Below.refl _ _) nq
            have HO2 := Lib.hid (HO.out.step hdN)
            have HB2 := Lib.hid (HBW.out.trans (hdN.mono hszw))
            have hsz2 := HB2.out.size
            clear hdN q0 q1 hcell hcellz HIR
            generalize wr.drewN nq = wq at *
            go_wp2_with (at_builtin; refine wpList_append_own _ rfl _ _ 26 rfl wo.heap.size 2 i0 (.int .i64 0) 1 8 Tryd.underlying26 hi hz0 hz1 hz2 rfl (by decide) _ _ _ rfl (World.ownsRow.alloc HO2.out _) ⟨wq.heap.size, 0, none⟩ 1 1 [.int .i64 j] rfl rfl (cell_one_new _ _ _) (by simp [Value.oneCell']) (by unfold maxLen; omega) (by omega) (by simp; omega) ?_; intro v' w1 hown1 hgrow1 _; have HO3 := Lib.hid (show OwnI w1 wo.heap.size v' (listTo X (j + 1)) by unfold OwnI; rw [listTo_hit HT.out, vals_snoc, List.length_append]; exact hown1); have HB3 := Lib.hid ((HB2.out.alloc hsz2 _).grown hgrow1 (by simp; omega) (fun q hq => (World.ownsRow.lt HO2.out q hq).1)); clear hown1 hgrow1)
            go_wp2
            go_roundw
            case rel => exact ⟨j + 1, by omega, by go_num, HO3.out, HB3.out⟩
            case measure => simp [intOf]; omega
          | false =>
            have HT := Lib.hid hbit
            have HC := Lib.hid (fun W (hW : Quiet wr W) => (l00Has_any ai (nthL zss k) ci (nth zs j) W (HIR.out.quiet hW) hll))
            rw [hhp, hbit] at HC
            clear hbit hhp
            go_wp2
            go_quiet ((go_at_call 121; exact Calls.quiet_of_same (swapped (HC.out _ ⟨_, rfl⟩))))
            rename_i nq
            have hdN : Below wr.heap.size wr (wr.drewN nq) := below_drewN (Below.refl _ _) nq
            have HO2 := Lib.hid (HO.out.step hdN)
            have HB2 := Lib.hid (HBW.out.trans (hdN.mono hszw))
            clear hdN q0 q1 hcell hcellz HIR
            generalize wr.drewN nq = wq at *
            go_wp2
            go_roundw
            case rel => exact ⟨j + 1, by omega, by go_num, by rw [listTo_miss HT.out]; exact HO2.out, HB2.out⟩
            case measure => simp [intOf]; omega
        · have HLX := Lib.hid (show listTo X j = listOf X by
            rw [show j = m by have := HLM.out; omega]; exact listTo_below HXL.out m7)
          have hU := HO.out
          rw [HLX.out] at hU
          obtain ⟨ua, uc, hv⟩ := OwnI.form hU
          subst hv
          have HU := Lib.hid hU
          have HROW' := Lib.hid (row_step HR.out hb2)
          have hsz' := Nat.lt_of_lt_of_le hszr hszw
          clear hown2 hb2 HO p0 p1
          go_wp2_with (at_builtin; refine wpList_append_own _ rfl _ _ 22 rfl (w.heap.size + 1) 26 j0 (.slice none 0 0) 1 24 Tryd.underlying22 ji jz0 jz1 jz2 rfl (by decide) _ _ _ rfl (World.ownsRow.alloc HROW'.out _) ⟨wr.heap.size, 0, none⟩ 1 1 [.slice ua (listOf X).length uc] rfl rfl (cell_one_new _ _ _) (by simp [Value.oneCell']) (by unfold maxLen; omega) (by omega) (by simp; omega) ?_; intro v' w1 hown2 hgrow2 _; obtain ⟨g', cap', rfl⟩ := ownsRow_succ hown2; have HO2 := Lib.hid hown2; have HG2 := Lib.hid hgrow2; clear hown2 hgrow2)
          go_wp2
          go_roundw
          case rel =>
            refine ⟨k + 1, g', cap', ps ++ [(.slice ua (listOf X).length uc, listOf X)], by omega, by go_num, by rw [List.length_append]; rfl, ?_, ?_, fun q hq => ?_, ?_, ?_⟩
            · rw [HBN.out, List.map_append, List.map_append, HP.out]; simp only [List.map_cons, List.map_nil]; rw [HXE.out]
            · rw [List.map_append, List.length_append]; exact HO2.out
            · have hq' : OwnI wr (w.heap.size + 1) q.1 q.2 := by
                rcases List.mem_append.1 hq with h2 | h2
                · exact (HI.out q h2).step HBW.out
                · obtain rfl := List.mem_singleton.1 h2
                  exact HU.out.mono (by omega)
              exact (World.ownsRow.alloc hq' _).kept HG2.out (rows_apart hq' HROW'.out (by decide))
            · exact ((HB.out.trans (HBW.out.mono (Nat.le_of_lt hszr))).alloc (Nat.le_of_lt hsz') _).grown HG2.out (by simp; omega) (fun q hq => by have := (HROW'.out.lt q hq).1; omega)
            · refine (HG2.out.block _ (by simp; omega) (fun e => ?_)).trans ((Below.heap_alloc _ _ _ (by omega)).trans ((HBW.out.block _ hszr).trans HF.out))
              have := (HROW'.out.lt _ e.symm).1; omega
          case measure => simp [intOf]; omega
    · have HK := Lib.hid (show k = zss.length by omega)
      have d0 := cell_step (drew_step wr) p0
      have HRD := Lib.hid (row_step HR.out (drew_step wr))
      have HID := Lib.hid (HI.out.step (drew_step wr))
      have HFD := Lib.hid (((drew_step wr).block w.heap.size hszr).trans HF.out)
      have HBD := Lib.hid (chain HB.out (drew_step wr))
      have hso := sorts_of ps
      rw [HP.out, HK.out] at hso
      have HFO2 := Lib.hid (show famOf m (renB zs zss m) = (sortFrom ltP (ps.length - 1) 1 ps).map Prod.snd from (renamed_sorted (HOR.out.ord) m7 (fam_bits HFO.out).1 (fam_bits HFO.out).2.1 (fam_bits HFO.out).2.2 hso).symm)
      have HSL := Lib.hid (show (sortFrom ltP (ps.length - 1) 1 ps).length = ps.length by
        have := hso.1.length_eq
        rw [List.length_map, List.length_map, bitsUpTo_len] at this
        have h2 := congrArg List.length HP.out
        rw [List.length_map, List.length_map, bitsUpTo_len] at h2
        have := HK.out
        omega)
      clear hso
      go_wp2_with fail
      go_region_with (go_at_call 122; refine (l01Sorted_any g cap (w.heap.size + 1) ps _ HRD.out HID.out (by omega)).mono ?_; rintro e w' ⟨rfl, hrow, hin, hb⟩; have q0 := (hb.cell (p := ⟨fb, 0, none⟩) (by show fb < w.heap.size + 1; omega)).trans d0; have hf' := (hb.block w.heap.size (by omega)).trans HFD.out; have c0 : w'.cell? ⟨w.heap.size, 0, none⟩ = some (.int .i64 0) := (by simp [World.cell?, hf']); have c1 : w'.cell? ⟨w.heap.size, 1, none⟩ = some (.slice none 0 0) := (by simp [World.cell?, hf']); have f0 : w'.frozen? ⟨w.heap.size, 0, none⟩ = false := (by simp [World.frozen?, hf']); have f1 : w'.frozen? ⟨w.heap.size, 1, none⟩ = false := (by simp [World.frozen?, hf']); have HR2 := Lib.hid hrow; have HI2 := Lib.hid hin; have HB2 := Lib.hid hb; clear hrow hin hb hf')
      all_goals
        go_wp2_with fail
        refine bodyPost_ret (v := .agg #[.int .i64 (m : Nat), .slice (some ⟨g, 0, none⟩) ps.length cap]) (by simp [results, Tryd.results79, go_sem, c0, c1]) rfl ⟨⟨some ⟨g, 0, none⟩, cap, ?_, ?_, ?_⟩, ?_⟩
        · rw [HFO2.out, List.length_map, HSL.out]
        · rw [HFO2.out]
          refine RowsF.mono ?_ (Nat.le_succ w.heap.size)
          exact rows2_of HSL.out (row_set (row_set HR2.out (by omega) _) (by omega) _) (HI2.out.map fun u zs hu => row_set (row_set hu (by omega) _) (by omega) _)
        · exact (famOf_small m7 _).lens
        · exact ((HBD.out.trans (HB2.out.mono (by omega))).setCell (by simp) _).setCell (by simp) _
end Go.Proofs.YtnebkhelobpkpaaDoor

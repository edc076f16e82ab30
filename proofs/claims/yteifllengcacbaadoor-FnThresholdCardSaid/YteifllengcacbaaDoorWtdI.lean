/- The program's WeightedFamily. -/
import Derived.Test.YteifllengcacbaaDoorWtd
namespace Go.Proofs.YteifllengcacbaaDoor
open Go.RowKit Go.Deep Go.Shelf
set_option linter.unusedVariables false

set_option maxRecDepth 100000 in
set_option maxHeartbeats 600000 in
theorem weight_any (x : Nat) (a : Option Addr) (zs : List Int) (c : Nat) (w : World) (hx : x < 128) (hr : Ints w a zs) (h7 : zs.length ≤ 7) (hw : ∀ i, i < zs.length → 0 ≤ nth zs i ∧ nth zs i ≤ 1000) :
    Calls Tryd.prog 76 #[.int .u64 x, .slice a zs.length c] w fun e w' => e = .returned (.int .i64 (wsum zs x zs.length)) ∧ w = w' := by
  have HW := Lib.hid hw
  clear hw
  go_enter Tryd.func76, Tryd.ntmps76
  go_wp2_with fail
  go_loop [5, 10] (fun s i => ∃ j : Nat, j ≤ zs.length ∧ i = .int .i64 j ∧ s = .int .i64 (wsum zs x j))
    (fun _ i => zs.length - (intOf i).toNat)
  case atStart => exact ⟨0, Nat.zero_le _, rfl, rfl⟩
  case round =>
    obtain ⟨j, hj, rfl, rfl⟩ := hrel
    by_cases hlt : j < zs.length
    · rcases hr with h | ⟨b, o, rfl, hc⟩
      · rw [h] at hlt; exact absurd hlt (Nat.not_lt_zero _)
      have hcell := hc j hlt
      have hji : (j : Int) < (zs.length : Int) := by omega
      have hbd := wsum_bd x HW.out j (by omega)
      have hb0 : 0 ≤ wsum zs x j := hbd.1
      have hb1 : wsum zs x j ≤ 7000 := by omega
      have hw0 : 0 ≤ nth zs j := (HW.out j hlt).1
      have hw1 : nth zs j ≤ 1000 := (HW.out j hlt).2
      clear hbd hc
      cases hbit : x.testBit j with
      | true =>
        have HS := Lib.hid (wsum_hit (zs := zs) hbit)
        have HT := Lib.hid hbit
        clear hbit
        go_wp2_with fail
        refine (has_any x j w hx (by omega) (by omega)).mono ?_
        rintro e w' ⟨rfl, rfl⟩
        rw [Int.toNat_natCast, HT.out]
        go_wp2_with fail
        go_round
        case rel => exact ⟨j + 1, by omega, by go_num, by rw [HS.out]⟩
        case measure => simp [intOf]; omega
      | false =>
        have HS := Lib.hid (wsum_miss (zs := zs) hbit)
        have HT := Lib.hid hbit
        clear hbit
        go_wp2_with fail
        refine (has_any x j w hx (by omega) (by omega)).mono ?_
        rintro e w' ⟨rfl, rfl⟩
        rw [Int.toNat_natCast, HT.out]
        go_wp2_with fail
        go_round
        case rel => exact ⟨j + 1, by omega, by go_num, by rw [HS.out]⟩
        case measure => simp [intOf]; omega
    · have HJ := Lib.hid (show j = zs.length by omega)
      go_wp2_with fail
      go_ret
      exact ⟨by rw [HJ.out]; rfl, rfl⟩

set_option maxRecDepth 100000 in
theorem wtd_chooses (B C : Nat) (a : Option Addr) (zs : List Int) (c : Nat) (k : Int) (w : World) (hB : w.cell? ⟨B, 0, none⟩ = some (.slice a zs.length c)) (hC : w.cell? ⟨C, 0, none⟩ = some (.int .i64 k)) (hr : Ints w a zs) (h7 : zs.length ≤ 7) (hw : ∀ i, i < zs.length → 0 ≤ nth zs i ∧ nth zs i ≤ 1000) :
    Chooses w 75 #[] #[.pointer (some ⟨B, 0, none⟩), .pointer (some ⟨C, 0, none⟩)] (heavy zs k) := by
  refine ⟨enters_of Tryd.func75 (by kernel_rfl) rfl, fun x W hb => ?_⟩
  have hx := x.isLt
  have hBW := cell_step hb hB
  have hCW := cell_step hb hC
  have HR := Lib.hid (hr.step hb)
  have HW := Lib.hid hw
  have HH := Lib.hid (show heavy zs k x.val = decide (k ≤ wsum zs x.val zs.length) from rfl)
  clear hb hB hC hr hw
  show Calls Tryd.prog 75 #[.int .u64 (x.val : Int), .pointer (some ⟨B, 0, none⟩), .pointer (some ⟨C, 0, none⟩)] W _
  rw [HH.out]
  generalize x.val = y at *
  go_enter Tryd.func75, Tryd.ntmps75
  go_wp2
  go_quiet ((go_at_call 76; refine Calls.quiet_of_same (swapped (weight_any y a zs c _ hx ?_ h7 HW.out)); exact HR.out.quiet ⟨_, rfl⟩))
  go_wp2
  go_ret
  exact ⟨rfl, quiet_below ⟨_, rfl⟩⟩

set_option maxHeartbeats 1000000 in
set_option maxRecDepth 100000 in
theorem implWtd_any (a : Option Addr) (zs : List Int) (c : Nat) (k : Int) (w : World) (hr : Ints w a zs) (hl : zs.length ≤ 1048576) : Calls Tryd.prog 40 #[.slice a zs.length c, .int .i64 k] w (GivesFO w (wtdOf zs k)) := by
  by_cases c1 : zs.length < 1
  · have t1 : decide (zs.length < 1) = true := by simpa using c1
    have t1i : decide ((zs.length : Int) < 1) = true := by simp; omega
    have HV := Lib.hid (wtdOf_no (zs := zs) (k := k) fun h => by have := h.1; omega)
    clear c1 hr
    go_enter Tryd.func40, Tryd.ntmps40
    go_wp2_with fail
    refine bodyPost_ret (v := .tuple #[.agg #[.int .i64 0, .slice none 0 0], .int .i64 2]) (by simp [results, Tryd.results40, go_sem]) rfl ?_
    rw [HV.out]
    exact GivesFO.no _ (by go_grown)
  · by_cases c2 : 7 < zs.length
    · have t2 : decide (7 < zs.length) = true := by simpa using c2
      have t2i : (7 : Int) < (zs.length : Int) := by omega
      have HV := Lib.hid (wtdOf_no (zs := zs) (k := k) fun h => by have := h.1; omega)
      clear hr
      go_enter Tryd.func40, Tryd.ntmps40
      go_wp2_with fail
      refine bodyPost_ret (v := .tuple #[.agg #[.int .i64 0, .slice none 0 0], .int .i64 2]) (by simp [results, Tryd.results40, go_sem]) rfl ?_
      rw [HV.out]
      exact GivesFO.no _ (by go_grown)
    · have n1 : 1 ≤ zs.length := by omega
      have n7 : zs.length ≤ 7 := by omega
      clear c1 c2
      by_cases c3 : k < 0
      · have HV := Lib.hid (wtdOf_no (zs := zs) (k := k) fun h => by have := h.2.1; omega)
        clear hr
        go_enter Tryd.func40, Tryd.ntmps40
        go_wp2_with fail
        refine bodyPost_ret (v := .tuple #[.agg #[.int .i64 0, .slice none 0 0], .int .i64 2]) (by simp [results, Tryd.results40, go_sem]) rfl ?_
        rw [HV.out]
        exact GivesFO.no _ (by go_grown)
      · have k0 : 0 ≤ k := by omega
        clear c3
        by_cases c4 : 7001 < k
        · have HV := Lib.hid (wtdOf_no (zs := zs) (k := k) fun h => by have := h.2.1; omega)
          clear hr
          go_enter Tryd.func40, Tryd.ntmps40
          go_wp2_with fail
          refine bodyPost_ret (v := .tuple #[.agg #[.int .i64 0, .slice none 0 0], .int .i64 2]) (by simp [results, Tryd.results40, go_sem]) rfl ?_
          rw [HV.out]
          exact GivesFO.no _ (by go_grown)
        · have k1 : k ≤ 7001 := by omega
          clear c4
          have hB0 := (((Below.refl w.heap.size w).alloc (Nat.le_refl _) (.cells #[.slice a zs.length c] 28)).alloc (by simp) (.cells #[.int .i64 k] 2)).alloc (by simp; omega) (.cells #[.int .i64 0, .slice none 0 0] 26)
          have hF0 : Boxes1 (((w.alloc (.cells #[.slice a zs.length c] 28)).alloc (.cells #[.int .i64 k] 2)).alloc (.cells #[.int .i64 0, .slice none 0 0] 26)) (w.heap.size + 1 + 1) := by
            have := World.alloc_heap_new ((w.alloc (.cells #[.slice a zs.length c] 28)).alloc (.cells #[.int .i64 k] 2)) (.cells #[.int .i64 0, .slice none 0 0] 26)
            simpa [Boxes1] using this
          have hK0 : (((w.alloc (.cells #[.slice a zs.length c] 28)).alloc (.cells #[.int .i64 k] 2)).alloc (.cells #[.int .i64 0, .slice none 0 0] 26)).cell? ⟨w.heap.size, 0, none⟩ = some (.slice a zs.length c) := by simp [go_sem]
          have hK1 : (((w.alloc (.cells #[.slice a zs.length c] 28)).alloc (.cells #[.int .i64 k] 2)).alloc (.cells #[.int .i64 0, .slice none 0 0] 26)).cell? ⟨w.heap.size + 1, 0, none⟩ = some (.int .i64 k) := by simp [go_sem]
          have HA := Lib.hid (hr.step hB0)
          clear hr
          have HB := Lib.hid hB0
          have HF := Lib.hid hF0
          have HK0 := Lib.hid hK0
          have HK1 := Lib.hid hK1
          clear hB0 hF0 hK0 hK1
          go_enter Tryd.func40, Tryd.ntmps40
          go_wp2_with fail
          generalize (((w.alloc (.cells #[.slice a zs.length c] 28)).alloc (.cells #[.int .i64 k] 2)).alloc (.cells #[.int .i64 0, .slice none 0 0] 26)) = w1 at *
          have hZ := HF.out.lt
          go_loop [27] (fun i => ∃ j : Nat, j ≤ zs.length ∧ i = .int .i64 j ∧ ∀ r, r < j → 0 ≤ nth zs r ∧ nth zs r ≤ 1000)
            (fun i => zs.length - (intOf i).toNat)
          case atStart => exact ⟨0, by omega, rfl, fun r hr => absurd hr (Nat.not_lt_zero _)⟩
          case round =>
            obtain ⟨j, hj, rfl, hall⟩ := hrel
            have HL := Lib.hid hall
            clear hall
            by_cases hlt : j < zs.length
            · rcases HA.out with h | ⟨b, o, rfl, hc⟩
              · rw [h] at hlt; exact absurd hlt (Nat.not_lt_zero _)
              have hcell := hc j hlt
              have hji : (j : Int) < (zs.length : Int) := by omega
              have c0 := HF.out.c0
              have c1 := HF.out.c1
              have f0 := HF.out.f 0
              have f1 := HF.out.f 1
              clear hc
              by_cases hw0 : nth zs j < 0
              · have HV := Lib.hid (wtdOf_no (zs := zs) (k := k) fun h => by have := (h.2.2 j hlt).1; omega)
                go_wp2_with fail
                refine bodyPost_ret (v := .tuple #[.agg #[.int .i64 0, .slice none 0 0], .int .i64 2]) (by simp [results, Tryd.results40, go_sem, c0, c1]) rfl ?_
                rw [HV.out]
                exact GivesFO.no _ ((HB.out.setCell (by simp <;> omega) _).setCell (by simp <;> omega) _)
              · by_cases hw1 : 1000 < nth zs j
                · have HV := Lib.hid (wtdOf_no (zs := zs) (k := k) fun h => by have := (h.2.2 j hlt).2; omega)
                  have hw2 : 0 ≤ nth zs j := by omega
                  clear hw0
                  go_wp2_with fail
                  refine bodyPost_ret (v := .tuple #[.agg #[.int .i64 0, .slice none 0 0], .int .i64 2]) (by simp [results, Tryd.results40, go_sem, c0, c1]) rfl ?_
                  rw [HV.out]
                  exact GivesFO.no _ ((HB.out.setCell (by simp <;> omega) _).setCell (by simp <;> omega) _)
                · have hw2 : 0 ≤ nth zs j := by omega
                  have hw3 : nth zs j ≤ 1000 := by omega
                  clear hw0 hw1
                  go_wp2_with fail
                  go_round
                  case rel =>
                    refine ⟨j + 1, by omega, by go_num, fun r hr => ?_⟩
                    by_cases e : r = j
                    · subst e; exact ⟨hw2, hw3⟩
                    · exact HL.out r (by omega)
                  case measure => simp [intOf]; omega
            · have HW := Lib.hid (show ∀ i, i < zs.length → 0 ≤ nth zs i ∧ nth zs i ≤ 1000 from fun i hi => HL.out i (by omega))
              have HV := Lib.hid (wtdOf_yes (zs := zs) (k := k) ⟨⟨n1, n7⟩, ⟨k0, k1⟩, HW.out⟩)
              have q0 := HK0.out
              have q1 := HK1.out
              go_wp2_with fail
              clear q0 q1
              refine (famWhere_any zs.length _ #[] #[.pointer (some ⟨w.heap.size, 0, none⟩), .pointer (some ⟨w.heap.size + 1, 0, none⟩)] _ w1 n1 n7 (wtd_chooses w.heap.size (w.heap.size + 1) a zs c k w1 HK0.out HK1.out HA.out n7 HW.out)).mono ?_
              rintro e w2 ⟨⟨v, us, rfl, hrow, hrows⟩, hb⟩
              obtain ⟨va, vc, rfl⟩ := rowForm hrow
              have hf' := HF.out.step hb
              have c0 := hf'.c0
              have c1 := hf'.c1
              have f0 := hf'.f 0
              have f1 := hf'.f 1
              have HR := Lib.hid hrow
              have HRS := Lib.hid hrows
              have hle : w.heap.size ≤ w1.heap.size := by omega
              have HB2 := Lib.hid (HB.out.trans (hb.mono hle))
              clear hrow hrows hb hf'
              generalize famOf zs.length (heavy zs k) = Z at *
              go_wp2_with fail
              refine bodyPost_ret (v := .tuple #[.agg #[.int .i64 (zs.length : Nat), .slice va Z.length vc], .int .i64 0]) (by simp [results, Tryd.results40, go_sem, c0, c1]) rfl ?_
              rw [HV.out]
              exact ⟨⟨_, us, rfl, ownsRow_mono (row_set (row_set HR.out hZ _) hZ _) hle, (HRS.out.map fun u zs hu => row_set (row_set hu hZ _) hZ _).mono hle⟩, (HB2.out.setCell (by simp <;> omega) _).setCell (by simp <;> omega) _⟩
end Go.Proofs.YteifllengcacbaaDoor

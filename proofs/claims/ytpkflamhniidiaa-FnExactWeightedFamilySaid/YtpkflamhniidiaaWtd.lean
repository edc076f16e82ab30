/- WeightedFamily, the model's and the program's. -/
import Derived.Test.YtpkflamhniidiaaThr
import Derived.Test.YtpkflamhniidiaaThrI
namespace Go.Proofs.Ytpkflamhniidiaa
open Go.RowKit Go.Deep Go.Shelf
set_option linter.unusedVariables false

set_option maxHeartbeats 1000000 in
set_option maxRecDepth 100000 in
theorem specWtd_any (a : Option Addr) (zs : List Int) (c : Nat) (k : Int) (w : World) (hr : Ints w a zs) (hl : zs.length ≤ 1048576) : Calls Try.prog 17 #[.slice a zs.length c, .int .i64 k] w (GivesFC w (wtdOf zs k)) := by
  have hB0 := (Below.refl w.heap.size w).alloc (Nat.le_refl _) (.cells #[.int .i64 0, .slice none 0 0] 25)
  have hF0 : Boxes1 (w.alloc (.cells #[.int .i64 0, .slice none 0 0] 25)) w.heap.size := World.alloc_heap_new w _
  by_cases hn : 1 ≤ zs.length ∧ zs.length ≤ 7
  · have t1 := Lib.hid (show (decide ((1 : Int) ≤ (zs.length : Int)) && decide ((zs.length : Int) ≤ 7)) = true by simp; omega)
    have n1 : 1 ≤ zs.length := hn.1
    have n7 : zs.length ≤ 7 := hn.2
    by_cases hk : 0 ≤ k ∧ k ≤ 7001
    · have t2 := Lib.hid (show (decide (0 ≤ k) && decide (k ≤ 7001)) = true by simp; omega)
      have HN := Lib.hid hn
      have HK := Lib.hid hk
      have HA := Lib.hid (hr.step hB0)
      have HB := Lib.hid hB0
      have HF := Lib.hid hF0
      clear hn hk hr hB0 hF0
      go_enter Try.func17, Try.ntmps17
      go_wp2_with fail
      refine (l00In_val _ 1 7 true _ t1.out).mono ?_
      rintro e w' ⟨rfl, rfl⟩
      go_wp2_with fail
      refine (l00In_val _ 0 7001 true _ t2.out).mono ?_
      rintro e w' ⟨rfl, rfl⟩
      go_wp2_with fail
      generalize w.alloc (.cells #[.int .i64 0, .slice none 0 0] 25) = w1 at *
      go_loop [6] (fun i => ∃ j : Nat, j ≤ zs.length ∧ i = .int .i64 j ∧ ∀ r, r < j → 0 ≤ nth zs r ∧ nth zs r ≤ 1000)
        (fun i => zs.length - (intOf i).toNat)
      case atStart => exact ⟨0, by omega, rfl, fun r hr => absurd hr (Nat.not_lt_zero _)⟩
      case round =>
        obtain ⟨j, hj, rfl, hall⟩ := hrel
        have HL := Lib.hid hall
        clear hall
        by_cases hlt : j < zs.length
        · rcases HA.out with h | ⟨b, o, rfl, hc⟩
          · rw [h] at hlt; exact absurd hlt (Nat.not_lt_zero _)
          have hcell := hc j hlt
          have hji : (j : Int) < (zs.length : Int) := by omega
          clear hc
          by_cases hw : 0 ≤ nth zs j ∧ nth zs j ≤ 1000
          · have t3 := Lib.hid (show (decide (0 ≤ nth zs j) && decide (nth zs j ≤ 1000)) = true by simp; omega)
            have HW := Lib.hid hw
            clear hw
            go_wp2_with fail
            refine (l00In_val _ 0 1000 true _ t3.out).mono ?_
            rintro e w' ⟨rfl, rfl⟩
            go_wp2_with fail
            go_round
            case rel =>
              refine ⟨j + 1, by omega, by go_num, fun r hr => ?_⟩
              by_cases e : r = j
              · subst e; exact HW.out
              · exact HL.out r (by omega)
            case measure => simp [intOf]; omega
          · have t3 := Lib.hid (show (decide (0 ≤ nth zs j) && decide (nth zs j ≤ 1000)) = false by simp; omega)
            have HV := Lib.hid (wtdOf_no (zs := zs) (k := k) fun h => hw (h.2.2 j hlt))
            clear hw
            have c0 := HF.out.c0
            have c1 := HF.out.c1
            have f0 := HF.out.f 0
            have f1 := HF.out.f 1
            go_wp2_with fail
            refine (l00In_val _ 0 1000 false _ t3.out).mono ?_
            rintro e w' ⟨rfl, rfl⟩
            go_wp2_with fail
            refine bodyPost_ret (v := .tuple #[.agg #[.int .i64 0, .slice none 0 0], .int .i64 2]) (by simp [results, Try.results17, go_sem, c0, c1]) rfl ?_
            rw [HV.out]
            exact GivesFC.no _ ((HB.out.setCell (by simp) _).setCell (by simp) _)
        · have HW := Lib.hid (show ∀ i, i < zs.length → 0 ≤ nth zs i ∧ nth zs i ≤ 1000 from fun i hi => HL.out i (by omega))
          have HV := Lib.hid (wtdOf_yes (zs := zs) (k := k) ⟨HN.out, HK.out, HW.out⟩)
          have hszr := HF.out.lt
          go_wp2_with fail
          refine (l01Weighted_any a zs c k w1 HA.out n1 n7 HW.out).mono ?_
          rintro e w' ⟨⟨a2, c2, rfl, hrows, hlens⟩, hb⟩
          have hf' := HF.out.step hb
          have c0 := hf'.c0
          have c1 := hf'.c1
          have f0 := hf'.f 0
          have f1 := hf'.f 1
          have HRR := Lib.hid hrows
          have HB2 := Lib.hid (HB.out.trans (hb.mono (Nat.le_of_lt hszr)))
          clear hrows hlens hb hf'
          generalize famOf zs.length (heavy zs k) = Z at *
          go_wp2_with fail
          refine bodyPost_ret (v := .tuple #[.agg #[.int .i64 (zs.length : Nat), .slice a2 Z.length c2], .int .i64 0]) (by simp [results, Try.results17, go_sem, c0, c1]) rfl ?_
          rw [HV.out]
          exact ⟨⟨a2, c2, rfl, ((HRR.out.set hszr 0 _).set hszr 1 _).mono (Nat.le_of_lt hszr)⟩, (HB2.out.setCell (by simp) _).setCell (by simp) _⟩
    · have t2 := Lib.hid (show (decide (0 ≤ k) && decide (k ≤ 7001)) = false by simp; omega)
      have HV := Lib.hid (wtdOf_no (zs := zs) (k := k) fun h => hk h.2.1)
      clear hn hk hr hB0 hF0
      go_enter Try.func17, Try.ntmps17
      go_wp2_with fail
      refine (l00In_val _ 1 7 true _ t1.out).mono ?_
      rintro e w' ⟨rfl, rfl⟩
      go_wp2_with fail
      refine (l00In_val _ 0 7001 false _ t2.out).mono ?_
      rintro e w' ⟨rfl, rfl⟩
      go_wp2_with fail
      refine bodyPost_ret (v := .tuple #[.agg #[.int .i64 0, .slice none 0 0], .int .i64 2]) (by simp [results, Try.results17, go_sem]) rfl ?_
      rw [HV.out]
      exact GivesFC.no _ (by go_grown)
  · have t1 := Lib.hid (show (decide ((1 : Int) ≤ (zs.length : Int)) && decide ((zs.length : Int) ≤ 7)) = false by simp; omega)
    have HV := Lib.hid (wtdOf_no (zs := zs) (k := k) fun h => hn h.1)
    clear hn hr hB0 hF0
    go_enter Try.func17, Try.ntmps17
    go_wp2_with fail
    refine (l00In_val _ 1 7 false _ t1.out).mono ?_
    rintro e w' ⟨rfl, rfl⟩
    go_wp2_with fail
    refine bodyPost_ret (v := .tuple #[.agg #[.int .i64 0, .slice none 0 0], .int .i64 2]) (by simp [results, Try.results17, go_sem]) rfl ?_
    rw [HV.out]
    exact GivesFC.no _ (by go_grown)
end Go.Proofs.Ytpkflamhniidiaa

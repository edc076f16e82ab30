/- FamilyOf, the model's and the program's. -/
import Derived.Test.YtdfggbojccfblaaTbl
import Derived.Test.YtdfggbojccfblaaNt2
import Derived.Test.YtdfggbojccfblaaThrI
namespace Go.Proofs.Ytdfggbojccfblaa
open Go.RowKit Go.Deep Go.Shelf
set_option linter.unusedVariables false

def GofOk (h : Int) (zss : List (List Int)) : Prop := (1 ≤ h ∧ h ≤ 7) ∧ zss.length ≤ 200 ∧ ∀ i, i < zss.length → IsGrp h (nthL zss i)
noncomputable def gofOf (h : Int) (zss : List (List Int)) : FR := if tell (GofOk h zss) = true then ⟨h, famOf h.toNat (tblAt zss zss.length), 0⟩ else noFam 2
theorem gofOf_yes {h : Int} {zss : List (List Int)} (k : GofOk h zss) : gofOf h zss = ⟨h, famOf h.toNat (tblAt zss zss.length), 0⟩ := by rw [gofOf, if_pos (tell_true k)]
theorem gofOf_no {h : Int} {zss : List (List Int)} (k : ¬ GofOk h zss) : gofOf h zss = noFam 2 := by rw [gofOf, if_neg (by rw [tell_false k]; simp)]

set_option maxHeartbeats 1000000 in
set_option maxRecDepth 100000 in
theorem specGof_any (h : Int) (a : Option Addr) (zss : List (List Int)) (c : Nat) (w : World) (hr : Rows2 w a zss) (hl : Small2 zss) : Calls Try.prog 58 #[.int .i64 h, .slice a zss.length c] w (GivesFC w (gofOf h zss)) := by
  have hB0 := (Below.refl w.heap.size w).alloc (Nat.le_refl _) (.cells #[.int .i64 0, .slice none 0 0] 46)
  have hF0 : Boxes1 (w.alloc (.cells #[.int .i64 0, .slice none 0 0] 46)) w.heap.size := World.alloc_heap_new w _
  have hll := hl.1
  by_cases hn : 1 ≤ h ∧ h ≤ 7
  · have t1 := Lib.hid (show (decide ((1 : Int) ≤ h) && decide (h ≤ 7)) = true by simp; omega)
    have n1 : 1 ≤ h := hn.1
    have n7 : h ≤ 7 := hn.2
    by_cases hk : zss.length ≤ 200
    · have hki : ((zss.length : Nat) : Int) ≤ 200 := by omega
      have HN := Lib.hid hn
      have HA := Lib.hid (hr.step hB0)
      have HL := Lib.hid hl.lens
      have HB := Lib.hid hB0
      have HF := Lib.hid hF0
      clear hn hr hB0 hF0 hl
      go_enter Try.func58, Try.ntmps58
      go_wp2_with fail
      refine (l00In_val _ 1 7 true _ t1.out).mono ?_
      rintro e w' ⟨rfl, rfl⟩
      go_wp2_with fail
      generalize w.alloc (.cells #[.int .i64 0, .slice none 0 0] 46) = w1 at *
      go_loopw [6] (fun i wr => ∃ j : Nat, j ≤ zss.length ∧ i = .int .i64 j ∧ Quiet w1 wr ∧ ∀ r, r < j → IsGrp h (nthL zss r))
        (fun i _ => zss.length - (intOf i).toNat)
      case atStart => exact ⟨0, by omega, rfl, Quiet.refl _, fun r hr => absurd hr (Nat.not_lt_zero _)⟩
      case round =>
        obtain ⟨j, hj, rfl, hq, hall⟩ := hrel
        have HALL := Lib.hid hall
        have HQ := Lib.hid hq
        have HFW := Lib.hid (HF.out.step (quiet_below hq))
        have HBW := Lib.hid (chain HB.out ((quiet_below hq)))
        have HAW := Lib.hid (HA.out.quiet hq)
        clear hall hq
        by_cases hlt : j < zss.length
        · rcases HAW.out with h0 | ⟨b, o, rfl, hc⟩
          · rw [h0] at hlt; exact absurd hlt (Nat.not_lt_zero _)
          obtain ⟨ai, ci, hcell, hints⟩ := hc j hlt
          have hji : (j : Int) < (zss.length : Int) := by omega
          have HI := Lib.hid hints
          clear hc hints
          by_cases hg : IsGrp h (nthL zss j)
          · have HT := Lib.hid (tell_true hg)
            have HG := Lib.hid hg
            clear hg
            go_wp2_with fail
            refine (l01Group_any ai (nthL zss j) ci h _ HI.out (HL.out.2 j hlt) (by omega) (by omega)).mono ?_
            rintro e w' ⟨rfl, hq⟩
            have HQ2 := Lib.hid (HQ.out.trans hq)
            clear hq
            rw [HT.out]
            go_wp2_with fail
            go_roundw
            case rel => exact ⟨j + 1, by omega, by go_num, HQ2.out, fun r hr => by
                by_cases e : r = j
                · subst e; exact HG.out
                · exact HALL.out r (by omega)⟩
            case measure => simp [intOf]; omega
          · have HT := Lib.hid (tell_false hg)
            have HV := Lib.hid (gofOf_no (h := h) (zss := zss) fun k => hg (k.2.2 j hlt))
            clear hg
            go_wp2_with fail
            refine (l01Group_any ai (nthL zss j) ci h _ HI.out (HL.out.2 j hlt) (by omega) (by omega)).mono ?_
            rintro e w' ⟨rfl, hq⟩
            have hf' := HFW.out.step (quiet_below hq)
            have c0 := hf'.c0
            have c1 := hf'.c1
            have f0 := hf'.f 0
            have f1 := hf'.f 1
            have HB2 := Lib.hid (chain HBW.out (quiet_below hq))
            clear hq hf'
            rw [HT.out]
            go_wp2_with fail
            refine bodyPost_ret (v := .tuple #[.agg #[.int .i64 0, .slice none 0 0], .int .i64 2]) (by simp [results, Try.results58, go_sem, c0, c1]) rfl ?_
            rw [HV.out]
            exact GivesFC.no _ ((HB2.out.setCell (by simp) _).setCell (by simp) _)
        · have HW := Lib.hid (show ∀ i, i < zss.length → IsGrp h (nthL zss i) from fun i hi => HALL.out i (by omega))
          have HV := Lib.hid (gofOf_yes (h := h) (zss := zss) ⟨HN.out, hk, HW.out⟩)
          obtain ⟨m, rfl⟩ : ∃ m : Nat, h = (m : Int) := ⟨h.toNat, by omega⟩
          obtain ⟨n, hn2⟩ : ∃ n, n = 2 ^ m := ⟨_, rfl⟩
          have m1 : 1 ≤ m := by omega
          have m7 : m ≤ 7 := by omega
          have HN2 := Lib.hid hn2
          clear hn2
          have hb3 := (Below.refl wr.heap.size wr).alloc (Nat.le_refl _) (.cells #[.int .i64 (m : Nat), .slice a zss.length c] 46)
          have hbox : FamBox (wr.alloc (.cells #[.int .i64 (m : Nat), .slice a zss.length c] 46)) wr.heap.size (m : Nat) a zss.length c := ⟨by simp [go_sem], by simp [go_sem]⟩
          have HBX := Lib.hid hbox
          have HA3 := Lib.hid (HAW.out.step hb3)
          have HF3 := Lib.hid (HFW.out.step hb3)
          have HB3 := Lib.hid (chain HBW.out hb3)
          clear hbox hb3
          go_wp2_with fail
          generalize wr.alloc (.cells #[.int .i64 (m : Nat), .slice a zss.length c] 46) = w3 at *
          generalize wr.heap.size = fb at *
          refine (l01Table_any m n fb a zss c w3 m1 m7 HN2.out HBX.out HA3.out HL.out HW.out).mono ?_
          rintro e w4 ⟨rfl, hbo, hb4⟩
          have HBO := Lib.hid hbo
          have HF4 := Lib.hid (HF3.out.step hb4)
          have HB4 := Lib.hid (chain HB3.out hb4)
          clear hbo hb4
          go_wp2_with fail
          refine (l01From_any m n n _ (tblAt zss zss.length) w4 m1 m7 HN2.out HBO.out).mono ?_
          rintro e w5 ⟨⟨a2, c2, rfl, hrows, hlens⟩, hb5⟩
          have hszr := HF4.out.lt
          have hf' := HF4.out.step hb5
          have c0 := hf'.c0
          have c1 := hf'.c1
          have f0 := hf'.f 0
          have f1 := hf'.f 1
          have HRR := Lib.hid hrows
          have HB5 := Lib.hid (chain HB4.out hb5)
          clear hrows hlens hb5 hf'
          have hZ : famOf (((m : Nat) : Int)).toNat (tblAt zss zss.length) = famOf m (tblAt zss zss.length) := by rw [Int.toNat_natCast]
          rw [hZ] at HV
          clear hZ
          generalize famOf m (tblAt zss zss.length) = Z at *
          go_wp2_with fail
          refine bodyPost_ret (v := .tuple #[.agg #[.int .i64 (m : Nat), .slice a2 Z.length c2], .int .i64 0]) (by simp [results, Try.results58, go_sem, c0, c1]) rfl ?_
          rw [HV.out]
          exact ⟨⟨a2, c2, rfl, ((HRR.out.set hszr 0 _).set hszr 1 _).mono (Nat.le_of_lt hszr)⟩, (HB5.out.setCell (by simp) _).setCell (by simp) _⟩
    · have hki : (200 : Int) < (zss.length : Int) := by omega
      have HV := Lib.hid (gofOf_no (h := h) (zss := zss) fun k => hk k.2.1)
      clear hn hk hr hB0 hF0 hl
      go_enter Try.func58, Try.ntmps58
      go_wp2_with fail
      refine (l00In_val _ 1 7 true _ t1.out).mono ?_
      rintro e w' ⟨rfl, rfl⟩
      go_wp2_with fail
      refine bodyPost_ret (v := .tuple #[.agg #[.int .i64 0, .slice none 0 0], .int .i64 2]) (by simp [results, Try.results58, go_sem]) rfl ?_
      rw [HV.out]
      exact GivesFC.no _ (by go_grown)
  · have t1 := Lib.hid (show (decide ((1 : Int) ≤ h) && decide (h ≤ 7)) = false by simp; omega)
    have HV := Lib.hid (gofOf_no (h := h) (zss := zss) fun k => hn k.1)
    clear hn hr hB0 hF0 hl
    go_enter Try.func58, Try.ntmps58
    go_wp2_with fail
    refine (l00In_val _ 1 7 false _ t1.out).mono ?_
    rintro e w' ⟨rfl, rfl⟩
    go_wp2_with fail
    refine bodyPost_ret (v := .tuple #[.agg #[.int .i64 0, .slice none 0 0], .int .i64 2]) (by simp [results, Try.results58, go_sem]) rfl ?_
    rw [HV.out]
    exact GivesFC.no _ (by go_grown)
end Go.Proofs.Ytdfggbojccfblaa

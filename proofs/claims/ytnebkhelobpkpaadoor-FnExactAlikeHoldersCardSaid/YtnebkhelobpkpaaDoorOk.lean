/- The contract of the model's check of families: l01Ok. -/
import Derived.Test.YtnebkhelobpkpaaDoorBits
import Derived.Test.YtnebkhelobpkpaaDoorOpen
namespace Go.Proofs.YtnebkhelobpkpaaDoor
open Go.RowKit Go.Deep
set_option linter.unusedVariables false

/-- A family in a box. -/
def FamBox (w : World) (f : Nat) (h : Int) (a : Option Addr) (n c : Nat) : Prop := w.cell? ⟨f, 0, none⟩ = some (.int .i64 h) ∧ w.cell? ⟨f, 1, none⟩ = some (.slice a n c)
theorem FamBox.quiet {w w' : World} {f : Nat} {h : Int} {a : Option Addr} {n c : Nat} (k : FamBox w f h a n c) (q : Quiet w w') : FamBox w' f h a n c := ⟨(q.cell _).trans k.1, (q.cell _).trans k.2⟩
theorem FamBox.below {B : Nat} {w w' : World} {f : Nat} {h : Int} {a : Option Addr} {n c : Nat} (k : FamBox w f h a n c) (hb : Below B w w') (hB : w.heap.size ≤ B) : FamBox w' f h a n c := by
  have := World.block_lt_of_cell? _ _ k.1
  exact ⟨(hb.cell (p := ⟨f, 0, none⟩) (Nat.lt_of_lt_of_le this hB)).trans k.1, (hb.cell (p := ⟨f, 1, none⟩) (Nat.lt_of_lt_of_le this hB)).trans k.2⟩

theorem Small2.lens {zss : List (List Int)} (h : Small2 zss) : Lens zss := ⟨by have := h.1; omega, fun r hr => by have := h.2 r hr; omega⟩

set_option maxHeartbeats 1000000 in
set_option maxRecDepth 100000 in
theorem l01Ok_any (fb : Nat) (h : Int) (a : Option Addr) (zss : List (List Int)) (c : Nat) (w : World) (hbox : FamBox w fb h a zss.length c) (hr : Rows2 w a zss) (hl : Lens zss) :
    Calls Tryd.prog 35 #[.pointer (some ⟨fb, 0, none⟩)] w fun e w' => e = .returned (.bool (tell (FamOk h zss))) ∧ Quiet w w' := by
  obtain ⟨c0, c1⟩ := hbox
  obtain ⟨hl1, hl2⟩ := hl
  have HL2 := Lib.hid hl2
  clear hl2
  by_cases hh : 1 ≤ h ∧ h ≤ 7
  · have hh1 : 1 ≤ h := hh.1
    have hh2 : h ≤ 7 := hh.2
    have HH := Lib.hid hh
    have hin := Lib.hid (show (decide (1 ≤ h) && decide (h ≤ 7)) = true by simp [hh])
    clear hh
    go_enter Tryd.func35, Tryd.ntmps35
    go_wp2_with fail
    refine (l00In_val h 1 7 true w hin.out).mono ?_
    rintro e w' ⟨rfl, rfl⟩
    go_wp2_with fail
    go_loopw [3] (fun i wr => ∃ k : Nat, k ≤ zss.length ∧ i = .int .i64 k ∧ Quiet w wr ∧ ∀ j, j < k → IsGrp h (nthL zss j) ∧ (0 < j → Before (nthL zss (j - 1)) (nthL zss j)))
      (fun i _ => zss.length - (intOf i).toNat)
    case atStart => exact ⟨0, Nat.zero_le _, rfl, Quiet.refl _, fun j hj => absurd hj (Nat.not_lt_zero _)⟩
    case round =>
      obtain ⟨k, hk, rfl, hq, hall⟩ := hrel
      have HA := Lib.hid hall
      have HQ := Lib.hid hq
      have d0 := (hq.cell ⟨fb, 0, none⟩).trans c0
      have d1 := (hq.cell ⟨fb, 1, none⟩).trans c1
      by_cases hlt : k < zss.length
      · rcases hr.quiet hq with h0 | ⟨b, o, rfl, hc⟩
        · rw [h0] at hlt; exact absurd hlt (Nat.not_lt_zero _)
        obtain ⟨ai, ci, g1, i1⟩ := hc k hlt
        obtain ⟨aj, cj, g2, i2⟩ := hc (k - 1) (by omega)
        have hi0 : (k : Int) < (zss.length : Int) := by omega
        have I1 := Lib.hid i1
        have I2 := Lib.hid i2
        clear hc hq hall i1 i2 c0 c1
        by_cases hg : IsGrp h (nthL zss k)
        · have hgt := Lib.hid (tell_true hg)
          have HG := Lib.hid hg
          clear hg
          by_cases hk0 : k = 0
          · have hd : decide (0 < k) = false := by simp; omega
            have HK := Lib.hid hk0
            clear hk0 g2
            go_wp2
            go_quiet ((go_at_call 75; refine Calls.quiet_of (v := .bool true) ?_; rw [← hgt.out]; exact l01Group_any _ (nthL zss k) _ _ _ (I1.out.quiet ⟨_, rfl⟩) (HL2.out k hlt) (by omega) (by omega)))
            go_wp2
            go_roundw
            case rel =>
              refine ⟨k + 1, by omega, by go_num, HQ.out.trans ⟨_, rfl⟩, fun j hj => ?_⟩
              by_cases e : j = k
              · subst e; exact ⟨HG.out, fun h0 => by have := HK.out; omega⟩
              · exact HA.out j (by omega)
            case measure => simp [intOf]; omega
          · have hd : 0 < k := by omega
            have hd1 : (1 : Int) ≤ (k : Int) := by omega
            clear hk0
            by_cases hord : Before (nthL zss (k - 1)) (nthL zss k)
            · have hot := Lib.hid (tell_true hord)
              have HO := Lib.hid hord
              clear hord
              go_wp2
              go_quiet ((first | (go_at_call 75; refine Calls.quiet_of (v := .bool true) ?_; rw [← hgt.out]; exact l01Group_any _ (nthL zss k) _ _ _ (I1.out.quiet ⟨_, rfl⟩) (HL2.out k hlt) (by omega) (by omega)) | (go_at_call 76; refine Calls.quiet_of (v := .bool true) ?_; rw [← hot.out]; exact l01Before_any _ _ (nthL zss (k - 1)) (nthL zss k) _ _ _ (I2.out.quiet ⟨_, rfl⟩) (I1.out.quiet ⟨_, rfl⟩) (HL2.out (k - 1) (by omega)) (HL2.out k hlt))))
              go_wp2
              go_roundw
              case rel =>
                refine ⟨k + 1, by omega, by go_num, HQ.out.trans ⟨_, rfl⟩, fun j hj => ?_⟩
                by_cases e : j = k
                · subst e; exact ⟨HG.out, fun _ => HO.out⟩
                · exact HA.out j (by omega)
              case measure => simp [intOf]; omega
            · have hot := Lib.hid (tell_false hord)
              have hno : ¬ FamOk h zss := fun hf => hord ((hf.2.1 k hlt).2 hd)
              have HN := Lib.hid hno
              clear hord hno
              go_wp2
              go_quiet ((first | (go_at_call 75; refine Calls.quiet_of (v := .bool true) ?_; rw [← hgt.out]; exact l01Group_any _ (nthL zss k) _ _ _ (I1.out.quiet ⟨_, rfl⟩) (HL2.out k hlt) (by omega) (by omega)) | (go_at_call 76; refine Calls.quiet_of (v := .bool false) ?_; rw [← hot.out]; exact l01Before_any _ _ (nthL zss (k - 1)) (nthL zss k) _ _ _ (I2.out.quiet ⟨_, rfl⟩) (I1.out.quiet ⟨_, rfl⟩) (HL2.out (k - 1) (by omega)) (HL2.out k hlt))))
              go_wp2
              go_ret
              exact ⟨ret_bool (tell_false HN.out).symm, HQ.out.trans ⟨_, rfl⟩⟩
        · have hgt := Lib.hid (tell_false hg)
          have hno : ¬ FamOk h zss := fun hf => hg (hf.2.1 k hlt).1
          have HN := Lib.hid hno
          clear hg hno g2
          go_wp2
          go_quiet ((go_at_call 75; refine Calls.quiet_of (v := .bool false) ?_; rw [← hgt.out]; exact l01Group_any _ (nthL zss k) _ _ _ (I1.out.quiet ⟨_, rfl⟩) (HL2.out k hlt) (by omega) (by omega)))
          go_wp2
          go_ret
          exact ⟨ret_bool (tell_false HN.out).symm, HQ.out.trans ⟨_, rfl⟩⟩
      · have hag : AllGrp h zss := fun j hj => hall j (by omega)
        have HAG := Lib.hid hag
        clear hall hag
        go_wp2_with fail
        go_loopw [4] (fun i wr2 => ∃ m : Nat, m ≤ zss.length ∧ i = .int .i64 m ∧ Quiet w wr2 ∧ ∀ i, i < m → ∀ j, j < zss.length → i ≠ j → ¬ Part (nthL zss i) (nthL zss j))
          (fun i _ => zss.length - (intOf i).toNat)
        case atStart => exact ⟨0, Nat.zero_le _, rfl, hq, fun j hj => absurd hj (Nat.not_lt_zero _)⟩
        case round =>
          obtain ⟨m, hm, rfl, hq2, hnp⟩ := hrel
          have HP := Lib.hid hnp
          have HQ2 := Lib.hid hq2
          clear hnp hq d0 d1
          obtain ⟨wo, rfl⟩ : ∃ wo : World, wo = wr := ⟨_, rfl⟩
          have d0 := (hq2.cell ⟨fb, 0, none⟩).trans c0
          have d1 := (hq2.cell ⟨fb, 1, none⟩).trans c1
          by_cases hltm : m < zss.length
          · clear hq2
            go_wp2_with fail
            go_loopw [5] (fun i wr3 => ∃ p : Nat, p ≤ zss.length ∧ i = .int .i64 p ∧ Quiet w wr3 ∧ ∀ j, j < p → m ≠ j → ¬ Part (nthL zss m) (nthL zss j))
              (fun i _ => zss.length - (intOf i).toNat)
            case atStart => exact ⟨0, Nat.zero_le _, rfl, HQ2.out, fun j hj => absurd hj (Nat.not_lt_zero _)⟩
            case round =>
              obtain ⟨p, hp, rfl, hq3, hnp3⟩ := hrel
              have HP3 := Lib.hid hnp3
              have HQ3 := Lib.hid hq3
              clear hnp3 d0 d1
              have d0 := (hq3.cell ⟨fb, 0, none⟩).trans c0
              have d1 := (hq3.cell ⟨fb, 1, none⟩).trans c1
              by_cases hltp : p < zss.length
              · by_cases hmp : m = p
                · have t1 : (m != p) = false := by simp [hmp]
                  have t2 : ((m : Int) != (p : Int)) = false := by simp [hmp]
                  have HM := Lib.hid hmp
                  clear hmp hq3
                  go_wp2
                  go_quiet (fail)
                  go_wp2
                  go_roundw
                  case rel =>
                    refine ⟨p + 1, by omega, by go_num, HQ3.out.trans ⟨_, rfl⟩, fun j hj hne => ?_⟩
                    by_cases e : j = p
                    · exact absurd (HM.out.trans e.symm) hne
                    · exact HP3.out j (by omega) hne
                  case measure => simp [intOf]; omega
                · have t1 : (m != p) = true := by simp [hmp]
                  have t2 : ((m : Int) != (p : Int)) = true := by simp; omega
                  rcases hr.quiet hq3 with h0 | ⟨b, o, rfl, hc⟩
                  · rw [h0] at hltp; exact absurd hltp (Nat.not_lt_zero _)
                  obtain ⟨ai, ci, g1, i1⟩ := hc m hltm
                  obtain ⟨aj, cj, g2, i2⟩ := hc p hltp
                  have hi1 : (m : Int) < (zss.length : Int) := by omega
                  have hi2 : (p : Int) < (zss.length : Int) := by omega
                  have I1 := Lib.hid i1
                  have I2 := Lib.hid i2
                  clear hc i1 i2 c0 c1 hq3
                  by_cases hpart : Part (nthL zss m) (nthL zss p)
                  · have hpt := Lib.hid (tell_true hpart)
                    have hno : ¬ FamOk h zss := fun hf => hf.2.2 m hltm p hltp hmp hpart
                    have HN := Lib.hid hno
                    clear hpart hno hmp
                    go_wp2
                    go_quiet ((go_at_call 77; refine Calls.quiet_of_same (v := .bool true) (swapped ?_); rw [← hpt.out]; exact l01Within_any _ _ (nthL zss m) (nthL zss p) _ _ h _ (I1.out.quiet ⟨_, rfl⟩) (I2.out.quiet ⟨_, rfl⟩) (HAG.out m hltm).1 (HAG.out p hltp).1 hh2 (HL2.out m hltm) (HL2.out p hltp)))
                    go_wp2
                    go_ret
                    exact ⟨ret_bool (tell_false HN.out).symm, HQ3.out.trans ⟨_, rfl⟩⟩
                  · have hpt := Lib.hid (tell_false hpart)
                    have HN := Lib.hid hpart
                    clear hpart hmp
                    go_wp2
                    go_quiet ((go_at_call 77; refine Calls.quiet_of_same (v := .bool false) (swapped ?_); rw [← hpt.out]; exact l01Within_any _ _ (nthL zss m) (nthL zss p) _ _ h _ (I1.out.quiet ⟨_, rfl⟩) (I2.out.quiet ⟨_, rfl⟩) (HAG.out m hltm).1 (HAG.out p hltp).1 hh2 (HL2.out m hltm) (HL2.out p hltp)))
                    go_wp2
                    go_roundw
                    case rel =>
                      refine ⟨p + 1, by omega, by go_num, HQ3.out.trans ⟨_, rfl⟩, fun j hj hne => ?_⟩
                      by_cases e : j = p
                      · subst e; exact HN.out
                      · exact HP3.out j (by omega) hne
                    case measure => simp [intOf]; omega
              · have hend : ∀ j, j < zss.length → m ≠ j → ¬ Part (nthL zss m) (nthL zss j) := fun j hj => HP3.out j (by omega)
                have HE := Lib.hid hend
                clear hend hq3
                go_wp2
                go_roundw
                case rel =>
                  refine ⟨m + 1, by omega, by go_num, HQ3.out, fun i hi j hj hne => ?_⟩
                  by_cases e : i = m
                  · subst e; exact HE.out j hj hne
                  · exact HP.out i (by omega) j hj hne
                case measure => simp [intOf]; omega
          · have hok : FamOk h zss := ⟨HH.out, HAG.out, fun i hi j hj hne => HP.out i (by omega) j hj hne⟩
            have HOK := Lib.hid hok
            clear hok hq2
            go_wp2
            go_ret
            exact ⟨ret_bool (tell_true HOK.out).symm, HQ2.out⟩
  · have hin := Lib.hid (show (decide (1 ≤ h) && decide (h ≤ 7)) = false by simp; omega)
    have HN := Lib.hid (show ¬ FamOk h zss from fun hf => hh hf.1)
    clear hh
    go_enter Tryd.func35, Tryd.ntmps35
    go_wp2_with fail
    refine (l00In_val h 1 7 false w hin.out).mono ?_
    rintro e w' ⟨rfl, rfl⟩
    go_wp2
    go_ret
    exact ⟨ret_bool (tell_false HN.out).symm, Quiet.refl _⟩
end Go.Proofs.YtnebkhelobpkpaaDoor

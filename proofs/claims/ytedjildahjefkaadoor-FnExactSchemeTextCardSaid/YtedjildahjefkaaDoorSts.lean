/- SchemeText of the model. -/
import Derived.Test.YtedjildahjefkaaDoorSt0
import Derived.Deep.CutRange
namespace Go.Proofs.YtedjildahjefkaaDoor
open Go.RowKit Go.Deep
set_option linter.unusedVariables false

theorem one_grp (x : Int) (h0 : 0 ≤ x) (h1 : x ≤ 6) : groupText [x] = textOf [x] := by
  have : IsGrp 7 [x] := fun i hi => by
    have e : i = 0 := by simpa using hi
    subst e
    exact ⟨by simpa [nth] using h0, by simp [nth]; omega, fun q => absurd q (Nat.lt_irrefl _)⟩
  rw [groupText, if_pos (tell_true this)]

set_option maxRecDepth 100000 in
set_option maxHeartbeats 4000000 in
theorem specSt_any (h f l : Int) (ao : Option Addr) (yo : List Int) (co : Nat) (a : Option Addr) (z : List (List Int)) (c : Nat) (w : World) (hr : InS w ao yo a z) (hl : LenS yo z) :
    Calls Tryd.prog 11 #[.agg #[.int .i64 h, .slice ao yo.length co, .int .i64 f, .int .i64 l, .slice a z.length c]] w fun e w' => e = .returned (.string (schTextV h f l yo z)) ∧ Below w.heap.size w w' := by
  have HL := Lib.hid hl
  have hb0 := (Below.refl w.heap.size w).alloc (Nat.le_refl _) (.cells #[.int .i64 h, .slice ao yo.length co, .int .i64 f, .int .i64 l, .slice a z.length c] 37)
  have HR := Lib.hid (hr.step hb0)
  have HX := Lib.hid (show Boxes (w.alloc (.cells #[.int .i64 h, .slice ao yo.length co, .int .i64 f, .int .i64 l, .slice a z.length c] 37)) w.heap.size 37 #[.int .i64 h, .slice ao yo.length co, .int .i64 f, .int .i64 l, .slice a z.length c] from World.alloc_heap_new w _)
  clear hr hl
  go_enter Tryd.func11, Tryd.ntmps11
  go_wp2_with fail
  refine (l04Ok_any w.heap.size h f l ao yo co a z c _ HX.out HR.out HL.out).mono ?_
  generalize w.alloc (.cells #[.int .i64 h, .slice ao yo.length co, .int .i64 f, .int .i64 l, .slice a z.length c] 37) = w1 at *
  rintro e w2 ⟨rfl, hq⟩
  have hb := quiet_below hq
  have HB2 := Lib.hid (hb0.trans (hb.mono hb0.size))
  have HR2 := Lib.hid (HR.out.step hb)
  have HX2 := Lib.hid (HX.out.step hb)
  have x0 := HX2.out.s0
  have x2 := HX2.out.s2
  have x3 := HX2.out.s3
  have xl := HX2.out.lt
  clear hb0 hb hq HX HR
  by_cases hm : SchOk h yo f l z
  case neg =>
    have HT := Lib.hid (tell_false hm)
    have HV := Lib.hid (show schTextV h f l yo z = ⟨#[]⟩ by rw [schTextV, HT.out]; rfl)
    clear hm
    rw [HT.out]
    go_wp2_with fail
    go_ret
    exact ⟨by rw [HV.out]; rfl, HB2.out⟩
  have HT := Lib.hid (tell_true hm)
  have HM := Lib.hid hm
  have HV := Lib.hid (show schTextV h f l yo z = ⟨(lineL wScheme [h, f, l] ++ rowsS yo z yo.length).toArray⟩ by rw [schTextV, HT.out]; rfl)
  have hhb : 0 ≤ h ∧ h < 100 := by have := hm.1; omega
  have hfb : 0 ≤ f ∧ f < 100 := by have := hm.2.1.1.1; have := hm.2.1.1.2.1; omega
  have hlb : 0 ≤ l ∧ l < 100 := by have := hm.2.1.2.1; omega
  clear hm
  rw [HT.out]
  have hdh := fun W => decimalI_any h hhb.1 hhb.2 W
  have hdf := fun W => decimalI_any f hfb.1 hfb.2 W
  have hdl := fun W => decimalI_any l hlb.1 hlb.2 W
  have sh := dec_sz h hhb.1 hhb.2
  have sf := dec_sz f hfb.1 hfb.2
  have sl := dec_sz l hlb.1 hlb.2
  have HDH := Lib.hid (show (⟨(Lib.decDigits h.toNat).toArray⟩ : ByteArray).data.toList = Lib.decDigits h.toNat from rfl)
  have HDF := Lib.hid (show (⟨(Lib.decDigits f.toNat).toArray⟩ : ByteArray).data.toList = Lib.decDigits f.toNat from rfl)
  have HDL := Lib.hid (show (⟨(Lib.decDigits l.toNat).toArray⟩ : ByteArray).data.toList = Lib.decDigits l.toNat from rfl)
  generalize (⟨(Lib.decDigits h.toNat).toArray⟩ : ByteArray) = dh at *
  generalize (⟨(Lib.decDigits f.toNat).toArray⟩ : ByteArray) = df at *
  generalize (⟨(Lib.decDigits l.toNat).toArray⟩ : ByteArray) = dl at *
  have HH := Lib.hid hdh
  have HF := Lib.hid hdf
  have HLL := Lib.hid hdl
  have HHD := Lib.hid (show (((((((⟨#[115, 99, 104, 101, 109, 101, 32]⟩ : ByteArray) ++ dh) ++ (⟨#[32]⟩ : ByteArray)) ++ df) ++ (⟨#[32]⟩ : ByteArray)) ++ dl) ++ (⟨#[10]⟩ : ByteArray)) = ⟨(lineL wScheme [h, f, l] ++ rowsS yo z 0).toArray⟩ by
    apply ByteArray.ext
    apply Array.toList_inj.1
    simp [ByteArray.data_append, lineL, wScheme, numText, rowsS, HDH.out, HDF.out, HDL.out])
  have hhs : (((((((⟨#[115, 99, 104, 101, 109, 101, 32]⟩ : ByteArray) ++ dh) ++ (⟨#[32]⟩ : ByteArray)) ++ df) ++ (⟨#[32]⟩ : ByteArray)) ++ dl) ++ (⟨#[10]⟩ : ByteArray)).size ≤ 16 := by simp only [ByteArray.size_append]; show 7 + dh.size + 1 + df.size + 1 + dl.size + 1 ≤ 16; omega
  have MK := Lib.hid (show ∀ W, Below w2.heap.size w2 W → Below w2.heap.size w2 W ∧ W.cell? ⟨w.heap.size, 0, none⟩ = some (.int .i64 h) ∧ W.cell? ⟨w.heap.size, 2, none⟩ = some (.int .i64 f) ∧ W.cell? ⟨w.heap.size, 3, none⟩ = some (.int .i64 l) from fun W hb => ⟨hb, cell_step hb x0, cell_step hb x2, cell_step hb x3⟩)
  clear hdh hdf hdl hhb hfb hlb HT
  have k0a : ¬ 9223372036854775807 < (⟨#[115, 99, 104, 101, 109, 101, 32]⟩ : ByteArray).size + dh.size := by show ¬ _ < 7 + dh.size; omega
  have k0b : ¬ 9223372036854775807 < 7 + dh.size := by omega
  have k1a : ¬ 9223372036854775807 < ((⟨#[115, 99, 104, 101, 109, 101, 32]⟩ : ByteArray) ++ dh).size + 1 := by simp only [ByteArray.size_append]; show ¬ _ < 7 + dh.size + 1; omega
  have k1b : ¬ 9223372036854775807 < 7 + dh.size + 1 := by omega
  have k2a : ¬ 9223372036854775807 < (((⟨#[115, 99, 104, 101, 109, 101, 32]⟩ : ByteArray) ++ dh) ++ (⟨#[32]⟩ : ByteArray)).size + df.size := by simp only [ByteArray.size_append]; show ¬ _ < 7 + dh.size + 1 + df.size; omega
  have k2b : ¬ 9223372036854775807 < 7 + dh.size + 1 + df.size := by omega
  have k3a : ¬ 9223372036854775807 < ((((⟨#[115, 99, 104, 101, 109, 101, 32]⟩ : ByteArray) ++ dh) ++ (⟨#[32]⟩ : ByteArray)) ++ df).size + 1 := by simp only [ByteArray.size_append]; show ¬ _ < 7 + dh.size + 1 + df.size + 1; omega
  have k3b : ¬ 9223372036854775807 < 7 + dh.size + 1 + df.size + 1 := by omega
  have k4a : ¬ 9223372036854775807 < (((((⟨#[115, 99, 104, 101, 109, 101, 32]⟩ : ByteArray) ++ dh) ++ (⟨#[32]⟩ : ByteArray)) ++ df) ++ (⟨#[32]⟩ : ByteArray)).size + dl.size := by simp only [ByteArray.size_append]; show ¬ _ < 7 + dh.size + 1 + df.size + 1 + dl.size; omega
  have k4b : ¬ 9223372036854775807 < 7 + dh.size + 1 + df.size + 1 + dl.size := by omega
  have k5a : ¬ 9223372036854775807 < ((((((⟨#[115, 99, 104, 101, 109, 101, 32]⟩ : ByteArray) ++ dh) ++ (⟨#[32]⟩ : ByteArray)) ++ df) ++ (⟨#[32]⟩ : ByteArray)) ++ dl).size + 1 := by simp only [ByteArray.size_append]; show ¬ _ < 7 + dh.size + 1 + df.size + 1 + dl.size + 1; omega
  have k5b : ¬ 9223372036854775807 < 7 + dh.size + 1 + df.size + 1 + dl.size + 1 := by omega
  have k0c : ¬ 9223372036854775807 < ((⟨#[115, 99, 104, 101, 109, 101, 32]⟩ : ByteArray) ++ dh).size + (⟨#[32]⟩ : ByteArray).size := by simp only [ByteArray.size_append]; show ¬ _ < 7 + dh.size + 1; omega
  have k1c : ¬ 9223372036854775807 < ((((⟨#[115, 99, 104, 101, 109, 101, 32]⟩ : ByteArray) ++ dh) ++ (⟨#[32]⟩ : ByteArray)) ++ df).size + (⟨#[32]⟩ : ByteArray).size := by simp only [ByteArray.size_append]; show ¬ _ < 7 + dh.size + 1 + df.size + 1; omega
  have k2c : ¬ 9223372036854775807 < ((((((⟨#[115, 99, 104, 101, 109, 101, 32]⟩ : ByteArray) ++ dh) ++ (⟨#[32]⟩ : ByteArray)) ++ df) ++ (⟨#[32]⟩ : ByteArray)) ++ dl).size + (⟨#[10]⟩ : ByteArray).size := by simp only [ByteArray.size_append]; show ¬ _ < 7 + dh.size + 1 + df.size + 1 + dl.size + 1; omega
  go_wp2_with fail
  go_cut [3] from 8 to 24 (fun s3 wc => s3 = .string (((((((⟨#[115, 99, 104, 101, 109, 101, 32]⟩ : ByteArray) ++ dh) ++ (⟨#[32]⟩ : ByteArray)) ++ df) ++ (⟨#[32]⟩ : ByteArray)) ++ dl) ++ (⟨#[10]⟩ : ByteArray)) ∧ Below w2.heap.size w2 wc)
  case first =>
    go_region_held3 (fun w' => Below w2.heap.size w2 w' ∧ w'.cell? ⟨w.heap.size, 0, none⟩ = some (.int .i64 h) ∧ w'.cell? ⟨w.heap.size, 2, none⟩ = some (.int .i64 f) ∧ w'.cell? ⟨w.heap.size, 3, none⟩ = some (.int .i64 l)) (first | exact MK.out _ (drew_step _) | exact MK.out _ EW.out | fail) (first | (go_at_call_of 17 h; have KK := (‹Below w2.heap.size w2 _ ∧ _›).1; refine (HH.out _).mono ?_; rintro e wd ⟨rfl, hb⟩; have EW := Lib.hid (chain KK hb); clear KK) | (go_at_call_of 17 f; have KK := (‹Below w2.heap.size w2 _ ∧ _›).1; refine (HF.out _).mono ?_; rintro e wd ⟨rfl, hb⟩; have EW := Lib.hid (chain KK hb); clear KK) | (go_at_call_of 17 l; have KK := (‹Below w2.heap.size w2 _ ∧ _›).1; refine (HLL.out _).mono ?_; rintro e wd ⟨rfl, hb⟩; have EW := Lib.hid (chain KK hb); clear KK) | fail)
    all_goals (
      go_wp2_with fail
      go_meet
      exact ⟨rfl, EW.out⟩)
  case rest =>
  obtain ⟨rfl, hbc⟩ := hcut
  have HBC := Lib.hid hbc
  clear hbc MK HDH HDF HDL HH HF HLL x0 x2 x3 k0a k0b k1a k1b k2a k2b k3a k3b k4a k4b k5a k5b k0c k1c k2c
  generalize (((((((⟨#[115, 99, 104, 101, 109, 101, 32]⟩ : ByteArray) ++ dh) ++ (⟨#[32]⟩ : ByteArray)) ++ df) ++ (⟨#[32]⟩ : ByteArray)) ++ dl) ++ (⟨#[10]⟩ : ByteArray)) = hd at *
  have HYZ := Lib.hid HM.out.2.2.2.1
  have hz20 := HM.out.2.1.2.2.1
  go_wp2_with fail
  go_loopw [3, 4, 5] (fun s i q5 wr => ∃ (k : Nat) (t : ByteArray), k ≤ yo.length ∧ i = .int .i64 k ∧ s = .string t ∧ t = ⟨(lineL wScheme [h, f, l] ++ rowsS yo z k).toArray⟩ ∧ t.size ≤ 16 + 42 * k ∧ Below w2.heap.size w2 wr)
    (fun _ i _ _ => yo.length - (intOf i).toNat)
  case atStart => exact ⟨0, hd, Nat.zero_le _, rfl, rfl, HHD.out, by omega, HBC.out⟩
  case round =>
    obtain ⟨k, t, hk, rfl, rfl, ht, hts, hb⟩ := hrel
    have HTT := Lib.hid ht
    have HB := Lib.hid hb
    have y1 := (HX2.out.step hb).s1
    have yl := (HX2.out.step hb).lt
    clear ht hb HHD HBC hhs
    by_cases hlt : k < yo.length
    · have hltz : k < z.length := by have := HYZ.out; omega
      have hki : (k : Int) < (yo.length : Int) := by omega
      have hkz : (k : Int) < (z.length : Int) := by omega
      rcases HR2.out.o with h' | ⟨ob, oo, rfl, hoc⟩
      · rw [h'] at hlt; exact absurd hlt (Nat.not_lt_zero _)
      have ho2 := hoc k hlt
      have hown := cell_step HB.out ho2
      have lob : ob < wr.heap.size := World.block_lt_of_cell? _ _ hown
      obtain ⟨o0, o1⟩ := HM.out.2.2.2.2 k hlt
      have ho6 : nth yo k ≤ 6 := by have := HM.out.1; omega
      obtain ⟨hdg, hlen⟩ := mat_digs HM.out.2.1 hltz
      have HDG := Lib.hid hdg
      have htx := text1_size (nth yo k)
      have HIO := Lib.hid (show Ints (wr.alloc (.cells #[.int .i64 (nth yo k)] 2)) (some ⟨wr.heap.size, 0, none⟩) [nth yo k] from .inr ⟨wr.heap.size, 0, rfl, fun i hi => by
        have e : i = 0 := by simpa using hi
        subst e
        simp [nth]⟩)
      have hgt := specText_any (some ⟨wr.heap.size, 0, none⟩) [nth yo k] 1 _ HIO.out (by simp)
      rw [one_grp _ o0 ho6] at hgt
      have HAL := Lib.hid ((Below.refl wr.heap.size wr).alloc (Nat.le_refl _) (.cells #[.int .i64 (nth yo k)] 2))
      have HRS := Lib.hid (rowsS_snoc yo z k)
      have HRW := Lib.hid (show rowS (nth yo k) (nthL z k) = wRowS ++ (textOf [nth yo k]).data.toList ++ numText (nthL z k) ++ [10] from rfl)
      generalize textOf [nth yo k] = tx at *
      have HGT := Lib.hid hgt
      clear hgt hdg hoc ho2
      go_wp2_with (go_at_call 26; refine HGT.out.mono ?_; rintro e wg ⟨rfl, hbg⟩; have HBG := Lib.hid (HB.out.trans ((HAL.out.trans (hbg.mono HAL.out.size)).mono HB.out.size)); clear hbg)
      go_loopw [3, 5] (fun s j wi => ∃ (m : Nat) (u : ByteArray), m ≤ (nthL z k).length ∧ j = .int .i64 m ∧ s = .string u ∧ u = ⟨(lineL wScheme [h, f, l] ++ rowsS yo z k ++ (wRowS ++ tx.data.toList ++ numText ((nthL z k).take m))).toArray⟩ ∧ u.size ≤ 16 + 42 * k + 5 + 3 * m ∧ Below w2.heap.size w2 wi)
        (fun _ j _ => (nthL z k).length - (intOf j).toNat)
      case atStart =>
        refine ⟨0, t ++ ((⟨#[114, 111, 119, 32]⟩ : ByteArray) ++ tx), Nat.zero_le _, rfl, rfl, ?_, ?_, HBG.out⟩
        · apply ByteArray.ext
          apply Array.toList_inj.1
          have := congrArg (fun b : ByteArray => b.data.toList) HTT.out
          simp [ByteArray.data_append] at this ⊢
          rw [this]; simp [numText, wRowS]
        · simp only [ByteArray.size_append]; show t.size + (4 + tx.size) ≤ _; omega
      case round =>
        obtain ⟨m, u, hm, rfl, rfl, hu, hus, hb⟩ := hrel
        have HUU := Lib.hid hu
        have HBI := Lib.hid hb
        have z4 := (HX2.out.step hb).s4
        have z1 := (HX2.out.step hb).s1
        have zl := (HX2.out.step hb).lt
        have hr3 := HR2.out.r.below hb (Nat.le_refl _)
        clear hu hb y1 yl hown
        rcases hr3 with h' | ⟨rb, ro, rfl, hc⟩
        · rw [h'] at hltz; exact absurd hltz (Nat.not_lt_zero _)
        obtain ⟨ai, ci, hrow, hints⟩ := hc k hltz
        clear hc
        by_cases hltm : m < (nthL z k).length
        · have hmi : (m : Int) < ((nthL z k).length : Int) := by omega
          rcases hints with h' | ⟨b2, o2, rfl, hc2⟩
          · rw [h'] at hltm; exact absurd hltm (Nat.not_lt_zero _)
          have hel := hc2 m hltm
          obtain ⟨e0, e1⟩ := HDG.out m hltm
          have HST := Lib.hid (numText_snoc (nthL z k) hltm)
          have hdx := fun W => decimalI_any (nth (nthL z k) m) e0 e1 W
          have sx := dec_sz (nth (nthL z k) m) e0 e1
          have HDX := Lib.hid (show (⟨(Lib.decDigits (nth (nthL z k) m).toNat).toArray⟩ : ByteArray).data.toList = Lib.decDigits (nth (nthL z k) m).toNat from rfl)
          generalize (⟨(Lib.decDigits (nth (nthL z k) m).toNat).toArray⟩ : ByteArray) = dx at *
          generalize nth (nthL z k) m = x at *
          have HX9 := Lib.hid hdx
          clear hc2 hdx e0 e1
          go_wp2_with (go_at_call 17; refine (HX9.out _).mono ?_; rintro e wd ⟨rfl, hbd⟩; have HBD := Lib.hid (chain HBI.out hbd); clear hbd)
          go_roundw
          case rel =>
            refine ⟨m + 1, u ++ ((⟨#[32]⟩ : ByteArray) ++ dx), by omega, by go_num, rfl, ?_, ?_, HBD.out⟩
            · rw [HST.out]
              apply ByteArray.ext
              apply Array.toList_inj.1
              have := congrArg (fun b : ByteArray => b.data.toList) HUU.out
              simp [ByteArray.data_append] at this ⊢
              rw [this, ← HDX.out]; simp
            · simp only [ByteArray.size_append]; show u.size + (1 + dx.size) ≤ _; omega
          case measure => simp [intOf]; omega
        · have HE := Lib.hid (show m = (nthL z k).length by omega)
          go_wp2_with fail
          go_roundw
          case rel =>
            refine ⟨k + 1, u ++ ⟨#[10]⟩, by omega, by go_num, rfl, ?_, ?_, HBI.out⟩
            · rw [HRS.out, HRW.out]
              apply ByteArray.ext
              apply Array.toList_inj.1
              have h9 := HUU.out
              rw [HE.out, List.take_length] at h9
              have := congrArg (fun b : ByteArray => b.data.toList) h9
              simp [ByteArray.data_append] at this ⊢
              rw [this]
              simp
            · simp only [ByteArray.size_append]; show u.size + 1 ≤ _; omega
          case measure => simp [intOf]; omega
    · have HK := Lib.hid (show k = yo.length by omega)
      go_wp2_with fail
      go_ret
      have h1 := HTT.out
      rw [HK.out] at h1
      exact ⟨by rw [HV.out, ← h1]; rfl, HB2.out.trans (HB.out.mono HB2.out.size)⟩
end Go.Proofs.YtedjildahjefkaaDoor

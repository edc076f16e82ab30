/- Decimal of the model up to 99; MatrixText of the model. -/
import Derived.Test.YtedjildahjefkaaDoorMt
import Derived.LaidLaws
import Derived.Deep.RegionHeld3
import Derived.Deep.RegionLaw
import Derived.Deep.CutRange
namespace Go.Proofs.YtedjildahjefkaaDoor
open Go.RowKit Go.Deep
set_option linter.unusedVariables false

theorem conv_one (W : World) (g : Nat) (x : Int) (h : W.heap[g]? = some (.cells #[.int .u8 x] 5 (0, 0))) : (convert 48 9 (.slice (some ⟨g, 0, none⟩) 1 1)).run Tryd.prog W = .ok (.string (strOfNums [x])) W := by
  refine run_convert_bytes_arg (P := Tryd.prog) W 48 5 Tryd.underlying48 Tryd.underlying5 g 0 1 1 [x] rfl (fun i hi => ?_) _ Tryd.underlying9
  have : i = 0 := by omega
  subst this
  simp [World.cell?, h]
theorem decs1 : ∀ n : Fin 10, (strOfNums [48 + (n.val : Int)]).data = (Lib.decDigits n.val).toArray := by decide +kernel
theorem decs2 : ∀ n : Fin 100, n.val < 10 ∨ (strOfNums [48 + ((n.val / 10 : Nat) : Int)] ++ strOfNums [48 + ((n.val % 10 : Nat) : Int)]).data = (Lib.decDigits n.val).toArray := by decide +kernel

set_option maxRecDepth 100000 in
theorem decimal1_any (n : Nat) (w : World) (h : n < 10) : Calls Tryd.prog 17 #[.int .i64 n] w fun e w' => e = .returned (.string ⟨(Lib.decDigits n).toArray⟩) ∧ Below w.heap.size w w' := by
  have hcv := conv_one (w.alloc (.cells #[.int .u8 (48 + (n : Int))] 5)) w.heap.size (48 + (n : Int)) (World.alloc_heap_new w _)
  have HD := Lib.hid (show strOfNums [48 + (n : Int)] = ⟨(Lib.decDigits n).toArray⟩ from congrArg ByteArray.mk (decs1 ⟨n, h⟩))
  go_enter Tryd.func17, Tryd.ntmps17
  go_wp2_with fail
  go_ret
  exact ⟨by rw [← HD.out]; rfl, (Below.refl _ _).alloc (Nat.le_refl _) _⟩

set_option maxRecDepth 100000 in
set_option maxHeartbeats 1000000 in
theorem decimal2_any (n : Nat) (w : World) (h0 : 10 ≤ n) (h : n < 100) : Calls Tryd.prog 17 #[.int .i64 n] w fun e w' => e = .returned (.string ⟨(Lib.decDigits n).toArray⟩) ∧ Below w.heap.size w w' := by
  have h1 : (10 : Int) ≤ (n : Int) := by omega
  have e1 : (n : Int).tdiv 10 = ((n / 10 : Nat) : Int) := by rw [Int.tdiv_eq_ediv_of_nonneg (by omega)]; omega
  have e2 : (n : Int) / 10 = ((n / 10 : Nat) : Int) := by omega
  have e3 : (n : Int).tmod 10 = ((n % 10 : Nat) : Int) := by rw [Int.tmod_eq_emod_of_nonneg (by omega)]; omega
  have e4 : (n : Int) % 10 = ((n % 10 : Nat) : Int) := by omega
  have b1 : n % 10 < 10 := by omega
  have b2 : n / 10 < 10 := by omega
  have HD := Lib.hid (show strOfNums [48 + ((n / 10 : Nat) : Int)] ++ strOfNums [48 + ((n % 10 : Nat) : Int)] = ⟨(Lib.decDigits n).toArray⟩ from by
    rcases decs2 ⟨n, h⟩ with q | q
    · exact absurd q (by show ¬ n < 10; omega)
    · exact congrArg ByteArray.mk q)
  have HD1 := Lib.hid (show (⟨(Lib.decDigits (n / 10)).toArray⟩ : ByteArray) = strOfNums [48 + ((n / 10 : Nat) : Int)] from (congrArg ByteArray.mk (decs1 ⟨n / 10, b2⟩)).symm)
  have hcd := fun W => decimal1_any (n / 10) W b2
  simp only [HD1.out] at hcd
  have HC := Lib.hid hcd
  clear hcd
  generalize n / 10 = q at *
  generalize n % 10 = r at *
  have s1 : (strOfNums [48 + (q : Int)]).size ≤ 1 := by simp [strOfNums, ByteArray.size]
  have s2 : (strOfNums [48 + (r : Int)]).size ≤ 1 := by simp [strOfNums, ByteArray.size]
  have hcv0 := conv_one (w.alloc (.cells #[.int .u8 (48 + (r : Int))] 5)) w.heap.size (48 + (r : Int)) (World.alloc_heap_new w _)
  have hcv1 := conv_one (w.drew.alloc (.cells #[.int .u8 (48 + (r : Int))] 5)) w.heap.size (48 + (r : Int)) (World.alloc_heap_new w.drew _)
  have hcv2 := conv_one (w.alloc (.cells #[.int .u8 (48 + (r : Int))] 5)).drew w.heap.size (48 + (r : Int)) (World.alloc_heap_new w _)
  have hw1 : IntKind.i64.wrap (q : Int) = (q : Int) := by rw [IntKind.wrap_i64]; omega
  have hw2 : IntKind.i64.wrap (48 + (r : Int)) = 48 + (r : Int) := by rw [IntKind.wrap_i64]; omega
  have hw3 : IntKind.u8.wrap (48 + (r : Int)) = 48 + (r : Int) := by rw [IntKind.wrap_u8]; omega
  have HA := Lib.hid (show Below w.heap.size w (w.alloc (.cells #[.int .u8 (48 + (r : Int))] 5)).drew from ((Below.refl w.heap.size w).alloc (Nat.le_refl _) (.cells #[.int .u8 (48 + (r : Int))] 5)).drew)
  have HSA := Lib.hid (show w.heap.size ≤ (w.alloc (.cells #[.int .u8 (48 + (r : Int))] 5)).drew.heap.size by simp)
  have HSB := Lib.hid (show w.heap.size < (w.alloc (.cells #[.int .u8 (48 + (r : Int))] 5)).drew.heap.size by simp)
  have HAN := Lib.hid (show (w.alloc (.cells #[.int .u8 (48 + (r : Int))] 5)).drew.heap[w.heap.size]? = some (.cells #[.int .u8 (48 + (r : Int))] 5 (0, 0)) from World.alloc_heap_new w _)
  generalize hu : strOfNums [48 + (q : Int)] = u at *
  generalize hv : strOfNums [48 + (r : Int)] = v at *
  have hsz : ¬ 9223372036854775807 < u.size + v.size := by omega
  go_enter Tryd.func17, Tryd.ntmps17
  go_wp2_with fail
  go_region_law (go_simp; go_at_call 17; refine (HC.out _).mono ?_; rintro e w8 ⟨rfl, hb8⟩; (first | (have HB8 := Lib.hid ((drew_step w).trans hb8); have hcv3 := conv_one (w8.alloc (.cells #[.int .u8 (48 + (r : Int))] 5)) w8.heap.size (48 + (r : Int)) (World.alloc_heap_new w8 _); rw [hv] at hcv3) | (have HB8 := Lib.hid (HA.out.trans (hb8.mono HSA.out)); have hcv4 := conv_one w8 w.heap.size (48 + (r : Int)) ((hb8.block w.heap.size HSB.out).trans HAN.out); rw [hv] at hcv4)))
  all_goals (
    go_wp2_with fail
    go_ret
    exact ⟨by rw [← HD.out]; rfl, by first | exact HB8.out.alloc HB8.out.size _ | exact HB8.out⟩)
theorem decimalI_any (x : Int) (h0 : 0 ≤ x) (h1 : x < 100) (w : World) : Calls Tryd.prog 17 #[.int .i64 x] w fun e w' => e = .returned (.string ⟨(Lib.decDigits x.toNat).toArray⟩) ∧ Below w.heap.size w w' := by
  obtain ⟨n, rfl⟩ : ∃ n : Nat, x = n := ⟨x.toNat, by omega⟩
  rw [Int.toNat_natCast]
  by_cases h : n < 10
  · exact decimal1_any n w h
  · exact decimal2_any n w (by omega) (by omega)

theorem dec_sz (x : Int) (h0 : 0 ≤ x) (h1 : x < 100) : (⟨(Lib.decDigits x.toNat).toArray⟩ : ByteArray).size ≤ 2 := by have := dec_two x.toNat (by omega); simpa [ByteArray.size] using this

set_option maxRecDepth 100000 in
set_option maxHeartbeats 4000000 in
theorem specMt_any (p c : Int) (a : Option Addr) (zss : List (List Int)) (cc : Nat) (w : World) (hr : Rows2 w a zss) (hl : Lens zss) :
    Calls Tryd.prog 6 #[.agg #[.int .i64 p, .int .i64 c, .slice a zss.length cc]] w fun e w' => e = .returned (.string (matTextV p c zss)) ∧ Below w.heap.size w w' := by
  have HL := Lib.hid hl
  have hb0 := (Below.refl w.heap.size w).alloc (Nat.le_refl _) (.cells #[.int .i64 p, .int .i64 c, .slice a zss.length cc] 27)
  have HR := Lib.hid (hr.below hb0 (Nat.le_refl _))
  have HX := Lib.hid (show Boxes (w.alloc (.cells #[.int .i64 p, .int .i64 c, .slice a zss.length cc] 27)) w.heap.size 27 #[.int .i64 p, .int .i64 c, .slice a zss.length cc] from World.alloc_heap_new w _)
  clear hr hl
  go_enter Tryd.func6, Tryd.ntmps6
  go_wp2_with fail
  refine (l03Ok_any w.heap.size p c a zss cc _ HX.out HR.out HL.out).mono ?_
  generalize w.alloc (.cells #[.int .i64 p, .int .i64 c, .slice a zss.length cc] 27) = w1 at *
  rintro e w2 ⟨rfl, hq⟩
  have hb := quiet_below hq
  have HB2 := Lib.hid (hb0.trans (hb.mono hb0.size))
  have HR2 := Lib.hid (HR.out.step hb)
  have HX2 := Lib.hid (HX.out.step hb)
  have x0 := HX2.out.m0
  have x1 := HX2.out.m1
  have xl := HX2.out.lt
  clear hb0 hb hq HX HR
  by_cases hm : MatOk p c zss
  case neg =>
    have HT := Lib.hid (tell_false hm)
    have HV := Lib.hid (show matTextV p c zss = ⟨#[]⟩ by rw [matTextV, HT.out]; rfl)
    clear hm
    rw [HT.out]
    go_wp2_with fail
    go_ret
    exact ⟨by rw [HV.out]; rfl, HB2.out⟩
  have HT := Lib.hid (tell_true hm)
  have HM := Lib.hid hm
  have HV := Lib.hid (show matTextV p c zss = ⟨(lineL wMatrix [p, c] ++ rowsT zss).toArray⟩ by rw [matTextV, HT.out]; rfl)
  have hpb : 0 ≤ p ∧ p < 100 := by have := hm.1.1; have := hm.1.2.1; omega
  have hcb : 0 ≤ c ∧ c < 100 := by have := hm.2.1; omega
  clear hm
  rw [HT.out]
  have hdp := fun W => decimalI_any p hpb.1 hpb.2 W
  have hdc := fun W => decimalI_any c hcb.1 hcb.2 W
  have sp := dec_sz p hpb.1 hpb.2
  have sc := dec_sz c hcb.1 hcb.2
  have HDP := Lib.hid (show (⟨(Lib.decDigits p.toNat).toArray⟩ : ByteArray).data.toList = Lib.decDigits p.toNat from rfl)
  have HDC := Lib.hid (show (⟨(Lib.decDigits c.toNat).toArray⟩ : ByteArray).data.toList = Lib.decDigits c.toNat from rfl)
  generalize (⟨(Lib.decDigits p.toNat).toArray⟩ : ByteArray) = dp at *
  generalize (⟨(Lib.decDigits c.toNat).toArray⟩ : ByteArray) = dc at *
  have HP := Lib.hid hdp
  have HC := Lib.hid hdc
  have HHD := Lib.hid (show (((((⟨#[109, 97, 116, 114, 105, 120, 32]⟩ : ByteArray) ++ dp) ++ ⟨#[32]⟩) ++ dc) ++ ⟨#[10]⟩) = ⟨(lineL wMatrix [p, c] ++ rowsT (zss.take 0)).toArray⟩ by
    apply ByteArray.ext
    apply Array.toList_inj.1
    simp [ByteArray.data_append, lineL, wMatrix, numText, rowsT, HDP.out, HDC.out])
  have hhs : (((((⟨#[109, 97, 116, 114, 105, 120, 32]⟩ : ByteArray) ++ dp) ++ ⟨#[32]⟩) ++ dc) ++ ⟨#[10]⟩).size ≤ 13 := by simp only [ByteArray.size_append]; show 7 + dp.size + 1 + dc.size + 1 ≤ 13; omega
  have MK := Lib.hid (show ∀ W, Below w2.heap.size w2 W → Below w2.heap.size w2 W ∧ W.cell? ⟨w.heap.size, 0, none⟩ = some (.int .i64 p) ∧ W.cell? ⟨w.heap.size, 1, none⟩ = some (.int .i64 c) from fun W hb => ⟨hb, cell_step hb x0, cell_step hb x1⟩)
  clear hdp hdc hpb hcb HT
  go_wp2_with fail
  have k1 : ¬ 9223372036854775807 < 7 + dp.size := by omega
  have k1b : ¬ 9223372036854775807 < (⟨#[109, 97, 116, 114, 105, 120, 32]⟩ : ByteArray).size + dp.size := by show ¬ _ < 7 + dp.size; omega
  have k2 : ¬ 9223372036854775807 < ((⟨#[109, 97, 116, 114, 105, 120, 32]⟩ : ByteArray) ++ dp).size + 1 := by simp only [ByteArray.size_append]; show ¬ _ < 7 + dp.size + 1; omega
  have k2b : ¬ 9223372036854775807 < 7 + dp.size + 1 := by omega
  have k2c : ¬ 9223372036854775807 < ((⟨#[109, 97, 116, 114, 105, 120, 32]⟩ : ByteArray) ++ dp).size + (⟨#[32]⟩ : ByteArray).size := by simp only [ByteArray.size_append]; show ¬ _ < 7 + dp.size + 1; omega
  have k3 : ¬ 9223372036854775807 < ((⟨#[109, 97, 116, 114, 105, 120, 32]⟩ : ByteArray) ++ dp ++ ⟨#[32]⟩).size + dc.size := by simp only [ByteArray.size_append]; show ¬ _ < 7 + dp.size + 1 + dc.size; omega
  have k3b : ¬ 9223372036854775807 < 7 + dp.size + 1 + dc.size := by omega
  have k4 : ¬ 9223372036854775807 < ((⟨#[109, 97, 116, 114, 105, 120, 32]⟩ : ByteArray) ++ dp ++ ⟨#[32]⟩ ++ dc).size + 1 := by simp only [ByteArray.size_append]; show ¬ _ < 7 + dp.size + 1 + dc.size + 1; omega
  have k4b : ¬ 9223372036854775807 < 7 + dp.size + 1 + dc.size + 1 := by omega
  have k4c : ¬ 9223372036854775807 < ((⟨#[109, 97, 116, 114, 105, 120, 32]⟩ : ByteArray) ++ dp ++ ⟨#[32]⟩ ++ dc).size + (⟨#[10]⟩ : ByteArray).size := by simp only [ByteArray.size_append]; show ¬ _ < 7 + dp.size + 1 + dc.size + 1; omega
  go_cut [3] from 8 to 17 (fun s3 wc => s3 = .string (((((⟨#[109, 97, 116, 114, 105, 120, 32]⟩ : ByteArray) ++ dp) ++ ⟨#[32]⟩) ++ dc) ++ ⟨#[10]⟩) ∧ Below w2.heap.size w2 wc)
  case first =>
    go_region_held3 (fun w' => Below w2.heap.size w2 w' ∧ w'.cell? ⟨w.heap.size, 0, none⟩ = some (.int .i64 p) ∧ w'.cell? ⟨w.heap.size, 1, none⟩ = some (.int .i64 c)) (first | exact MK.out _ (drew_step _) | exact MK.out _ EW.out | fail) (first | (go_at_call_of 17 p; have KK := (‹Below w2.heap.size w2 _ ∧ _›).1; refine (HP.out _).mono ?_; rintro e wd ⟨rfl, hb⟩; have EW := Lib.hid (chain KK hb); clear KK) | (go_at_call_of 17 c; have KK := (‹Below w2.heap.size w2 _ ∧ _›).1; refine (HC.out _).mono ?_; rintro e wd ⟨rfl, hb⟩; have EW := Lib.hid (chain KK hb); clear KK) | fail)
    all_goals (
      go_wp2_with fail
      go_meet
      exact ⟨rfl, EW.out⟩)
  case rest =>
  obtain ⟨rfl, hbc⟩ := hcut
  have HBC := Lib.hid hbc
  clear hbc MK HDP HDC HP HC x0 x1 k1 k1b k2 k2b k2c k3 k3b k4 k4b k4c
  generalize (((((⟨#[109, 97, 116, 114, 105, 120, 32]⟩ : ByteArray) ++ dp) ++ ⟨#[32]⟩) ++ dc) ++ ⟨#[10]⟩) = hd at *
  have hz20 := HM.out.2.2.1
  go_wp2_with fail
  go_loopw [3, 4, 5] (fun s i q5 wr => ∃ (k : Nat) (t : ByteArray), k ≤ zss.length ∧ i = .int .i64 k ∧ s = .string t ∧ t = ⟨(lineL wMatrix [p, c] ++ rowsT (zss.take k)).toArray⟩ ∧ t.size ≤ 13 + 40 * k ∧ Below w2.heap.size w2 wr)
    (fun _ i _ _ => zss.length - (intOf i).toNat)
  case atStart => exact ⟨0, hd, Nat.zero_le _, rfl, rfl, HHD.out, by omega, HBC.out⟩
  case round =>
    obtain ⟨k, t, hk, rfl, rfl, ht, hts, hb⟩ := hrel
    have HTT := Lib.hid ht
    have HB := Lib.hid hb
    have y2 := (HX2.out.step hb).m2
    have yl := (HX2.out.step hb).lt
    clear ht hb HHD HBC hhs
    by_cases hlt : k < zss.length
    · have hki : (k : Int) < (zss.length : Int) := by omega
      obtain ⟨hdg, hlen⟩ := mat_digs HM.out hlt
      have HDG := Lib.hid hdg
      have hsz1 : ¬ 9223372036854775807 < t.size + 3 := by omega
      clear hdg
      go_wp2_with fail
      go_loopw [3, 5] (fun s j wi => ∃ (m : Nat) (u : ByteArray), m ≤ (nthL zss k).length ∧ j = .int .i64 m ∧ s = .string u ∧ u = ⟨(lineL wMatrix [p, c] ++ rowsT (zss.take k) ++ (wRow ++ numText ((nthL zss k).take m))).toArray⟩ ∧ u.size ≤ 13 + 40 * k + 3 + 3 * m ∧ Below w2.heap.size w2 wi)
        (fun _ j _ => (nthL zss k).length - (intOf j).toNat)
      case atStart =>
        refine ⟨0, t ++ ⟨#[114, 111, 119]⟩, Nat.zero_le _, rfl, rfl, ?_, ?_, HB.out⟩
        · apply ByteArray.ext
          apply Array.toList_inj.1
          have := congrArg (fun b : ByteArray => b.data.toList) HTT.out
          simp [ByteArray.data_append] at this ⊢
          rw [this]; simp [numText, wRow]
        · simp only [ByteArray.size_append]; show t.size + 3 ≤ _; omega
      case round =>
        obtain ⟨m, u, hm, rfl, rfl, hu, hus, hb⟩ := hrel
        have HUU := Lib.hid hu
        have HBI := Lib.hid hb
        have z2 := (HX2.out.step hb).m2
        have zl := (HX2.out.step hb).lt
        have hr3 := HR2.out.below hb (Nat.le_refl _)
        clear hu hb y2 yl
        rcases hr3 with h | ⟨rb, ro, rfl, hc⟩
        · rw [h] at hlt; exact absurd hlt (Nat.not_lt_zero _)
        obtain ⟨ai, ci, hrow, hints⟩ := hc k hlt
        clear hc
        by_cases hltm : m < (nthL zss k).length
        · have hmi : (m : Int) < ((nthL zss k).length : Int) := by omega
          rcases hints with h | ⟨b2, o2, rfl, hc2⟩
          · rw [h] at hltm; exact absurd hltm (Nat.not_lt_zero _)
          have hel := hc2 m hltm
          obtain ⟨e0, e1⟩ := HDG.out m hltm
          have HST := Lib.hid (numText_snoc (nthL zss k) hltm)
          have hdx := fun W => decimalI_any (nth (nthL zss k) m) e0 e1 W
          have sx := dec_sz (nth (nthL zss k) m) e0 e1
          have HDX := Lib.hid (show (⟨(Lib.decDigits (nth (nthL zss k) m).toNat).toArray⟩ : ByteArray).data.toList = Lib.decDigits (nth (nthL zss k) m).toNat from rfl)
          generalize (⟨(Lib.decDigits (nth (nthL zss k) m).toNat).toArray⟩ : ByteArray) = dx at *
          generalize nth (nthL zss k) m = x at *
          have HX9 := Lib.hid hdx
          clear hc2 hdx e0 e1
          go_wp2_with (go_at_call 17; refine (HX9.out _).mono ?_; rintro e wd ⟨rfl, hbd⟩; have HBD := Lib.hid (chain HBI.out hbd); clear hbd)
          go_roundw
          case rel =>
            refine ⟨m + 1, u ++ ((⟨#[32]⟩ : ByteArray) ++ dx), by omega, by go_num, rfl, ?_, ?_, HBD.out⟩
            · rw [HST.out]
              apply ByteArray.ext
              apply Array.toList_inj.1
              have := congrArg (fun b : ByteArray => b.data.toList) HUU.out
              simp [ByteArray.data_append] at this ⊢
              rw [this, ← HDX.out]; simp
            · simp only [ByteArray.size_append]; show u.size + (1 + dx.size) ≤ _; omega
          case measure => simp [intOf]; omega
        · have HE := Lib.hid (show m = (nthL zss k).length by omega)
          have hsz2 : ¬ 9223372036854775807 < u.size + 1 := by omega
          go_wp2_with fail
          go_roundw
          case rel =>
            refine ⟨k + 1, u ++ ⟨#[10]⟩, by omega, by go_num, rfl, ?_, ?_, HBI.out⟩
            · rw [rowsT_snoc zss hlt]
              apply ByteArray.ext
              apply Array.toList_inj.1
              have h9 := HUU.out
              rw [HE.out, List.take_length] at h9
              have := congrArg (fun b : ByteArray => b.data.toList) h9
              simp [ByteArray.data_append] at this ⊢
              rw [this]
              conv => rhs; rw [lineL]
              simp [lineL]
            · simp only [ByteArray.size_append]; show u.size + 1 ≤ _; omega
          case measure => simp [intOf]; omega
    · have HK := Lib.hid (show k = zss.length by omega)
      go_wp2_with fail
      go_ret
      have h1 := HTT.out
      rw [HK.out, List.take_length] at h1
      exact ⟨by rw [HV.out, ← h1]; rfl, HB2.out.trans (HB.out.mono HB2.out.size)⟩
end Go.Proofs.YtedjildahjefkaaDoor

/- The model's FamilyText. -/
import Derived.Test.YtpkflamhniidiaaDoorFt
import Derived.Test.YtpkflamhniidiaaDoorOk
import Derived.Test.YtpkflamhniidiaaDoorText
namespace Go.Proofs.YtpkflamhniidiaaDoor
open Go.RowKit Go.Deep
set_option linter.unusedVariables false

theorem dec_fact : ∀ n : Fin 10, (strOfNums [48 + (n.val : Int)]).data = (Lib.decDigits n.val).toArray := by decide +kernel
theorem dec_eq (n : Nat) (h : n < 10) : strOfNums [48 + (n : Int)] = ⟨(Lib.decDigits n).toArray⟩ := by
  have := dec_fact ⟨n, h⟩
  exact congrArg ByteArray.mk this

set_option maxRecDepth 100000 in
theorem decimal_any (n : Nat) (w : World) (h : n < 10) : Calls Tryd.prog 62 #[.int .i64 n] w fun e w' => e = .returned (.string ⟨(Lib.decDigits n).toArray⟩) ∧ Below w.heap.size w w' := by
  have hown : OwnB (w.alloc (.cells #[.int .u8 (48 + (n : Int))] 5)) w.heap.size (.slice (some ⟨w.heap.size, 0, none⟩) 1 1) [48 + (n : Int)] := ⟨by simp [valsB], .inr ⟨w.heap.size, 1, #[.int .u8 (48 + (n : Int))], rfl, Nat.le_refl _, World.alloc_heap_new w _, Nat.le_refl _, by unfold maxLen; omega, rfl, by simp [valsB]⟩⟩
  obtain ⟨a, c, e, hcv⟩ := hown.string (by simp)
  cases e
  have HD := Lib.hid (dec_eq n h)
  clear hown
  go_enter Tryd.func62, Tryd.ntmps62
  go_wp2_with fail
  go_ret
  exact ⟨by rw [← HD.out]; rfl, (Below.refl _ _).alloc (Nat.le_refl _) _⟩

set_option maxRecDepth 100000 in
set_option maxHeartbeats 2000000 in
theorem specFamText_any (h : Int) (a : Option Addr) (zss : List (List Int)) (c : Nat) (w : World) (hr : Rows2 w a zss) (hs : Small2 zss) :
    Calls Tryd.prog 19 #[.agg #[.int .i64 h, .slice a zss.length c]] w fun e w' => e = .returned (.string (famTextV h zss)) ∧ Below w.heap.size w w' := by
  have hb1 := (Below.refl w.heap.size w).alloc (Nat.le_refl _) (.cells #[.int .i64 h, .slice a zss.length c] 27)
  have hbox : FamBox (w.alloc (.cells #[.int .i64 h, .slice a zss.length c] 27)) w.heap.size h a zss.length c := ⟨by simp, by simp⟩
  have HR1 := Lib.hid (hr.step hb1)
  have HBX := Lib.hid hbox
  have HS := Lib.hid hs
  have hsl := hs.1
  clear hr hs hbox
  go_enter Tryd.func19, Tryd.ntmps19
  go_wp2_with fail
  refine (l01Ok_any w.heap.size h a zss c _ HBX.out HR1.out HS.out.lens).mono ?_
  generalize w.alloc (.cells #[.int .i64 h, .slice a zss.length c] 27) = w1 at *
  rintro e w2 ⟨rfl, hq⟩
  have HB2 := Lib.hid (chain hb1 (quiet_below hq))
  have HR2 := Lib.hid (HR1.out.quiet hq)
  have hx2 := HBX.out.quiet hq
  have c0 := hx2.1
  have c1 := hx2.2
  have HX2 := Lib.hid hx2
  clear hq hb1 HR1 HBX hx2
  by_cases hok : FamOk h zss
  · have HT := Lib.hid (tell_true hok)
    rw [HT.out]
    have HOK := Lib.hid hok
    obtain ⟨m, rfl⟩ : ∃ m : Nat, h = (m : Int) := ⟨h.toNat, by have := hok.1; omega⟩
    have hm : m < 10 := by have := hok.1; omega
    clear hok
    have HDL := Lib.hid (show (⟨(Lib.decDigits m).toArray⟩ : ByteArray).data.toList = Lib.decDigits m from rfl)
    have hdl : (⟨(Lib.decDigits m).toArray⟩ : ByteArray).size ≤ 20 := dec_small m (by have := HOK.out.1; omega)
    have hdi := decimal_any m w2 hm
    generalize (⟨(Lib.decDigits m).toArray⟩ : ByteArray) = ds at *
    have HDI := Lib.hid hdi
    clear hdi
    go_wp2_with (go_at_call 62; refine HDI.out.mono ?_; rintro e w' ⟨rfl, hb⟩; have c0' := cell_step hb c0; have c1' := cell_step hb c1; have HB3 := Lib.hid (chain HB2.out hb); have HR3 := Lib.hid (HR2.out.step hb); clear hb c0 c1)
    have hsize : ((⟨#[102, 97, 109, 105, 108, 121, 32]⟩ : ByteArray) ++ ds ++ ⟨#[10]⟩).size ≤ 28 := by simp only [ByteArray.size_append]; show 7 + ds.size + 1 ≤ 28; omega
    have HHD := Lib.hid (show ((⟨#[102, 97, 109, 105, 108, 121, 32]⟩ : ByteArray) ++ ds ++ ⟨#[10]⟩) = ⟨(famHead m ++ rowsText (zss.take 0)).toArray⟩ by
      apply ByteArray.ext
      apply Array.toList_inj.1
      rw [famHead, ← HDL.out]; simp [ByteArray.data_append, rowsText])
    generalize ((⟨#[102, 97, 109, 105, 108, 121, 32]⟩ : ByteArray) ++ ds ++ ⟨#[10]⟩) = hd at *
    go_loopw [3, 4] (fun s i wr => ∃ (k : Nat) (t : ByteArray), k ≤ zss.length ∧ i = .int .i64 k ∧ s = .string t ∧ t = ⟨(famHead m ++ rowsText (zss.take k)).toArray⟩ ∧ t.size ≤ 28 + 9 * k ∧ Below w.heap.size w wr ∧ Rows2 wr a zss ∧ wr.cell? ⟨w.heap.size, 1, none⟩ = some (.slice a zss.length c))
      (fun _ i _ => zss.length - (intOf i).toNat)
    case atStart => exact ⟨0, hd, Nat.zero_le _, rfl, rfl, HHD.out, by omega, HB3.out, HR3.out, c1'⟩
    case round =>
      obtain ⟨k, t, hk, rfl, rfl, ht, hts, hb, hr, hc1⟩ := hrel
      have HTT := Lib.hid ht
      have HB := Lib.hid hb
      clear ht hb c0' c1' HHD
      by_cases hlt : k < zss.length
      · have HRK := Lib.hid hr
        rcases hr with h0 | ⟨b, o, rfl, hc⟩
        · rw [h0] at hlt; exact absurd hlt (Nat.not_lt_zero _)
        obtain ⟨ai, ci, g1, i1⟩ := hc k hlt
        have hki : (k : Int) < (zss.length : Int) := by omega
        have hgr := (HOK.out.2.1 k hlt).1
        have hg7 := grp7 hgr (by have := HOK.out.1; omega)
        have hgt := specText_any ai (nthL zss k) ci wr i1 (HS.out.lens.2 k hlt)
        have HGT := Lib.hid (show groupText (nthL zss k) = textOf (nthL zss k) by rw [groupText, if_pos (tell_true hg7)])
        rw [HGT.out] at hgt
        have htx := textOf_small (nthL zss k) (grp_len hg7)
        have HST := Lib.hid (show famHead m ++ rowsText (zss.take (k + 1)) = (famHead m ++ rowsText (zss.take k)) ++ ((textOf (nthL zss k)).data.toList ++ [10]) by
          rw [nthL_lt hlt, rowsText_snoc zss hlt, List.append_assoc]; rfl)
        generalize textOf (nthL zss k) = tx at *
        have HGC := Lib.hid hgt
        clear hgt hc i1 hgr hg7
        go_wp2_with (go_at_call 63; refine HGC.out.mono ?_; rintro e w' ⟨rfl, hb5⟩; have H5 := Lib.hid hb5; clear hb5)
        go_roundw
        case rel =>
          refine ⟨k + 1, t ++ (tx ++ ⟨#[10]⟩), by omega, by go_num, rfl, ?_, ?_, chain HB.out H5.out, HRK.out.step H5.out, cell_step H5.out hc1⟩
          · rw [HST.out]
            apply ByteArray.ext
            apply Array.toList_inj.1
            have := congrArg (fun b : ByteArray => b.data.toList) HTT.out
            simp [ByteArray.data_append] at this ⊢
            rw [this]; simp
          · simp only [ByteArray.size_append]; show t.size + (tx.size + 1) ≤ _; omega
        case measure => simp [intOf]; omega
      · have HK := Lib.hid (show k = zss.length by omega)
        have HV := Lib.hid (show famTextV (m : Int) zss = ⟨(famHead m ++ rowsText zss).toArray⟩ by rw [famTextV, if_pos HT.out, Int.toNat_natCast]; rfl)
        go_wp2_with fail
        go_ret
        have h1 := HTT.out
        rw [HK.out, List.take_length] at h1
        exact ⟨by rw [HV.out, ← h1]; rfl, HB.out⟩
  · have HT := Lib.hid (tell_false hok)
    rw [HT.out]
    have HV := Lib.hid (show famTextV h zss = ⟨#[]⟩ by rw [famTextV, if_neg (by rw [HT.out]; simp)])
    clear hok
    go_wp2_with fail
    go_ret
    exact ⟨by rw [HV.out]; rfl, HB2.out⟩
end Go.Proofs.YtpkflamhniidiaaDoor

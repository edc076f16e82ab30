/- SchemeText: what is to be answered; the text of a leaf; the program's function. -/
import Derived.Test.YtedjildahjefkaaDoorMts
import Derived.Test.YtedjildahjefkaaDoorTx3
import Derived.Test.YtedjildahjefkaaDoorVs
import Derived.Deep.RegionHeld3
namespace Go.Proofs.YtedjildahjefkaaDoor
open Go.RowKit Go.Deep
set_option linter.unusedVariables false

theorem leaf_fact : ∀ h : Fin 7, listOf (0 ||| 2 ^ h.val) = [(h.val : Int)] := by decide +kernel
theorem text1_size (x : Int) : (textOf [x]).size = 1 := by
  unfold textOf
  rw [if_neg (by simp)]
  simp [strOfNums, letters, ByteArray.size]
set_option maxRecDepth 100000 in
theorem leafText_any (x : Int) (h0 : 0 ≤ x) (h1 : x ≤ 6) (w : World) : Calls Tryd.prog 29 #[.agg #[.int .i64 x]] w fun e w' => e = .returned (.string (textOf [x])) ∧ Below w.heap.size w w' := by
  obtain ⟨n, rfl⟩ : ∃ n : Nat, x = n := ⟨x.toNat, by omega⟩
  have HF := Lib.hid (show listOf (0 ||| 2 ^ n) = [(n : Int)] from leaf_fact ⟨n, by omega⟩)
  have HX := Lib.hid (show 0 ||| 2 ^ n < 128 by rw [Nat.zero_or]; exact pow_small (by omega))
  go_enter Tryd.func29, Tryd.ntmps29
  go_wp2_with fail
  refine (with_any 0 n _ (by omega) h0 h1).mono ?_
  rintro e w1 ⟨rfl, rfl⟩
  rw [Int.toNat_natCast]
  have hit := fun W => implText_any (0 ||| 2 ^ n) W HX.out
  rw [HF.out] at hit
  have HIT := Lib.hid hit
  have hb := (Below.refl w.heap.size w).alloc (Nat.le_refl _) (.cells #[.int .i64 (n : Int)] 65)
  clear hit
  generalize (0 ||| 2 ^ n) = g at *
  go_wp2_with fail
  refine (HIT.out _).mono ?_
  rintro e w2 ⟨rfl, hb2⟩
  have HB := Lib.hid (hb.trans (hb2.mono (by simp)))
  obtain ⟨tx, htx⟩ : ∃ tx, textOf [(n : Int)] = tx := ⟨_, rfl⟩
  have HTX := Lib.hid htx
  rw [htx]
  clear hb2 hb htx
  go_wp2_with fail
  go_ret
  exact ⟨by rw [HTX.out]; rfl, HB.out⟩

def wScheme : List UInt8 := [115, 99, 104, 101, 109, 101]
def wRowS : List UInt8 := [114, 111, 119, 32]
def rowS (x : Int) (zs : List Int) : List UInt8 := lineL (wRowS ++ (textOf [x]).data.toList) zs
def rowsS (yo : List Int) (z : List (List Int)) (k : Nat) : List UInt8 := ((List.range k).map fun i => rowS (nth yo i) (nthL z i)).flatten
def schText (h f l : Int) (yo : List Int) (z : List (List Int)) : List UInt8 := lineL wScheme [h, f, l] ++ rowsS yo z yo.length
noncomputable def schTextV (h f l : Int) (yo : List Int) (z : List (List Int)) : ByteArray := if tell (SchOk h yo f l z) = true then ⟨(schText h f l yo z).toArray⟩ else ⟨#[]⟩
theorem rowsS_snoc (yo : List Int) (z : List (List Int)) (k : Nat) : rowsS yo z (k + 1) = rowsS yo z k ++ rowS (nth yo k) (nthL z k) := by
  simp only [rowsS, List.range_succ, List.map_append, List.flatten_append, List.map_cons, List.map_nil, List.flatten_cons, List.flatten_nil, List.append_nil]
theorem shead_digs {h f l : Int} {yo : List Int} {z : List (List Int)} (k : SchOk h yo f l z) : Digs [h, f, l] := fun i hi => by
  have h0 := k.1; have h1 := k.2.1.1.1; have h2 := k.2.1.1.2.1; have h3 := k.2.1.2.1
  match i, hi with
  | 0, _ => simp [nth]; omega
  | 1, _ => simp [nth]; omega
  | 2, _ => simp [nth]; omega
theorem rowS_len {h f l : Int} {yo : List Int} {z : List (List Int)} (k : SchOk h yo f l z) {i : Nat} (hi : i < z.length) : (rowS (nth yo i) (nthL z i)).length ≤ 42 := by
  obtain ⟨h2, h3⟩ := mat_digs k.2.1 hi
  have h4 := lineL_len (wRowS ++ (textOf [nth yo i]).data.toList) _ h2
  have h5 : (textOf [nth yo i]).data.toList.length = 1 := by rw [Array.length_toList]; exact text1_size _
  have h6 : wRowS.length = 4 := rfl
  rw [List.length_append, h5, h6] at h4
  unfold rowS
  omega
theorem rowsS_len {h f l : Int} {yo : List Int} {z : List (List Int)} (kk : SchOk h yo f l z) (k : Nat) (hk : k ≤ z.length) : (rowsS yo z k).length ≤ 42 * k := by
  induction k with
  | zero => simp [rowsS]
  | succ k ih =>
    have h1 := ih (by omega)
    have h2 := rowS_len kk (show k < z.length by omega)
    rw [rowsS_snoc, List.length_append]
    omega
theorem shead_len {h f l : Int} {yo : List Int} {z : List (List Int)} (k : SchOk h yo f l z) : (lineL wScheme [h, f, l]).length ≤ 16 := by
  have := lineL_len wScheme _ (shead_digs k)
  have h1 : wScheme.length = 6 := rfl
  simp only [List.length_cons, List.length_nil] at this
  omega

set_option maxRecDepth 100000 in
set_option maxHeartbeats 4000000 in
theorem implSt_any (h f l : Int) (ao : Option Addr) (yo : List Int) (co : Nat) (a : Option Addr) (z : List (List Int)) (c : Nat) (w : World) (hr : InS w ao yo a z) (hl : LenS yo z) :
    Calls Tryd.prog 13 #[.agg #[.int .i64 h, .slice ao yo.length co, .int .i64 f, .int .i64 l, .slice a z.length c]] w fun e w' => e = .returned (.string (schTextV h f l yo z)) ∧ Below w.heap.size w w' := by
  have HL := Lib.hid hl
  have hb0 := (Below.refl w.heap.size w).alloc (Nat.le_refl _) (.cells #[.int .i64 h, .slice ao yo.length co, .int .i64 f, .int .i64 l, .slice a z.length c] 37)
  have HR := Lib.hid (hr.step hb0)
  have HX := Lib.hid (show Boxes (w.alloc (.cells #[.int .i64 h, .slice ao yo.length co, .int .i64 f, .int .i64 l, .slice a z.length c] 37)) w.heap.size 37 #[.int .i64 h, .slice ao yo.length co, .int .i64 f, .int .i64 l, .slice a z.length c] from World.alloc_heap_new w _)
  clear hr hl
  go_enter Tryd.func13, Tryd.ntmps13
  go_wp2_with fail
  refine (implVs_any h f l ao yo co a z c _ HR.out HL.out).mono ?_
  generalize w.alloc (.cells #[.int .i64 h, .slice ao yo.length co, .int .i64 f, .int .i64 l, .slice a z.length c] 37) = w1 at *
  rintro e w2 ⟨rfl, hb⟩
  have HB2 := Lib.hid (hb0.trans (hb.mono hb0.size))
  have HR2 := Lib.hid (HR.out.step hb)
  have HX2 := Lib.hid (HX.out.step hb)
  have x0 := HX2.out.s0
  have x1 := HX2.out.s1
  have x2 := HX2.out.s2
  have x3 := HX2.out.s3
  have x4 := HX2.out.s4
  have xl := HX2.out.lt
  have xl1 : w.heap.size < w2.heap.size + 1 := by omega
  clear hb0 hb HX HR
  by_cases hm : SchOk h yo f l z
  case neg =>
    have HT := Lib.hid (tell_false hm)
    have HV := Lib.hid (show schTextV h f l yo z = ⟨#[]⟩ by rw [schTextV, HT.out]; rfl)
    clear hm
    rw [HT.out]
    go_wp2_with fail
    go_ret
    exact ⟨by rw [HV.out]; rfl, HB2.out⟩
  have HT := Lib.hid (tell_true hm)
  have HM := Lib.hid hm
  have HV := Lib.hid (show schTextV h f l yo z = ⟨(lineL wScheme [h, f, l] ++ rowsS yo z yo.length).toArray⟩ by rw [schTextV, HT.out]; rfl)
  clear hm
  rw [HT.out]
  have HNEW := Lib.hid (show IsB w2.heap.size w2.heap.size [] (w2.alloc (.cells #[.pointer none, .slice none 0 0] 50)) from .inl ⟨Nat.le_refl _, .slice none 0 0, World.alloc_heap_new w2 _, World.ownsRow_nil _ _ _ _, by simp [Value.ownBlock]⟩)
  have HB3 := Lib.hid ((Below.refl w2.heap.size w2).alloc (Nat.le_refl _) (.cells #[.pointer none, .slice none 0 0] 50))
  go_wp2_with fail
  have hs3 : (w2.alloc (.cells #[.pointer none, .slice none 0 0] 50)).heap.size = w2.heap.size + 1 := by simp
  generalize w2.alloc (.cells #[.pointer none, .slice none 0 0] 50) = w3 at *
  have HI3 := Lib.hid (show Ints (w3.alloc (.cells #[.int .i64 h, .int .i64 f, .int .i64 l] 2)) (some ⟨w2.heap.size + 1, 0, none⟩) [h, f, l] by
    rw [← hs3]
    exact .inr ⟨w3.heap.size, 0, rfl, fun i hi => by
      match i, hi with
      | 0, _ => simp [nth]
      | 1, _ => simp [nth]
      | 2, _ => simp [nth]⟩)
  have HB4 := Lib.hid ((Below.refl w3.heap.size w3).alloc (Nat.le_refl _) (.cells #[.int .i64 h, .int .i64 f, .int .i64 l] 2))
  refine (lineOf_any (⟨#[115, 99, 104, 101, 109, 101]⟩ : ByteArray) _ [h, f, l] _ _ HI3.out (shead_digs HM.out) (by simp) (by decide)).mono ?_
  rintro e w' ⟨rfl, rfl⟩
  have hhl := shead_len HM.out
  have HHD := Lib.hid (show (⟨(lineL (⟨#[115, 99, 104, 101, 109, 101]⟩ : ByteArray).data.toList [h, f, l]).toArray⟩ : ByteArray).data.toList = lineL wScheme [h, f, l] from rfl)
  generalize (⟨(lineL (⟨#[115, 99, 104, 101, 109, 101]⟩ : ByteArray).data.toList [h, f, l]).toArray⟩ : ByteArray) = hd at *
  have hds : hd.size ≤ 16 := by have := congrArg List.length HHD.out; rw [Array.length_toList] at this; show hd.data.size ≤ 16; omega
  have HCE := Lib.hid (show ([] : List Value) ++ Lib.strCells hd = Lib.byteCells (lineL wScheme [h, f, l] ++ rowsS yo z 0) by
    rw [List.nil_append, Lib.strCells_eq, HHD.out]; simp [rowsS])
  go_wp2_with fail
  refine (writeString_any w2.heap.size w2.heap.size [] hd _ (isB_stepm HNEW.out HB4.out) (by simp; omega) (by simp; omega)).mono ?_
  generalize w3.alloc (.cells #[.int .i64 h, .int .i64 f, .int .i64 l] 2) = w4 at *
  rintro e w5 ⟨rfl, hisb, hb5⟩
  rw [HCE.out] at hisb
  have HIS := Lib.hid hisb
  have HB5 := Lib.hid (((HB3.out.trans (HB4.out.mono (by omega))).trans hb5))
  have y1 := (HB5.out.cell (p := ⟨w.heap.size, 1, none⟩) xl).trans x1
  have yl : w.heap.size < w5.heap.size := Nat.lt_of_lt_of_le xl HB5.out.size
  clear hisb hb5 HNEW HCE HHD hds x0 x1 x2 x3 HI3
  generalize hbb : w2.heap.size = b at *
  go_wp2_with fail
  go_loopw [4, 5, 23] (fun q4 q5 i wr => ∃ k : Nat, k ≤ yo.length ∧ i = .int .i64 k ∧ IsB b b (Lib.byteCells (lineL wScheme [h, f, l] ++ rowsS yo z k)) wr ∧ Below b w2 wr)
    (fun _ _ i _ => yo.length - (intOf i).toNat)
  case atStart => exact ⟨0, Nat.zero_le _, rfl, HIS.out, HB5.out⟩
  case round =>
    obtain ⟨k, hk, rfl, hisb, hbel⟩ := hrel
    have HI := Lib.hid hisb
    have HBB := Lib.hid hbel
    have hszr : b ≤ wr.heap.size := by rw [← hbb]; exact hbel.size
    clear hisb HIS hbel y1 yl
    by_cases hlt : k < yo.length
    · have hyz := HM.out.2.2.2.1
      have hltz : k < z.length := by omega
      clear hyz
      have hki : (k : Int) < (yo.length : Int) := by omega
      have hkz : (k : Int) < (z.length : Int) := by omega
      rcases HR2.out.o with h' | ⟨ob, oo, rfl, hoc⟩
      · rw [h'] at hlt; exact absurd hlt (Nat.not_lt_zero _)
      rcases HR2.out.r with h' | ⟨rb, ro, rfl, hrc⟩
      · rw [h'] at hltz; exact absurd hltz (Nat.not_lt_zero _)
      have ho2 := hoc k hlt
      obtain ⟨ai, ci, hrow2, hints2⟩ := hrc k hltz
      have lo2 := World.block_lt_of_cell? _ _ ho2
      have lr2 := World.block_lt_of_cell? _ _ hrow2
      simp only [hbb] at lo2 lr2
      have hown := (HBB.out.cell (p := ⟨ob, oo + k, none⟩) lo2).trans ho2
      have HCX := Lib.hid (show w2.cell? ⟨w.heap.size, 4, none⟩ = some (.slice (some ⟨rb, ro, none⟩) z.length c) from x4)
      have HCR := Lib.hid hrow2
      have HIN := Lib.hid hints2
      obtain ⟨o0, o1⟩ := HM.out.2.2.2.2 k hlt
      have ho6 : nth yo k ≤ 6 := by have := HM.out.1; omega
      obtain ⟨hdg, hlen⟩ := mat_digs HM.out.2.1 hltz
      have HDG := Lib.hid hdg
      have hrl := rowsS_len HM.out k (by omega)
      have hrs := rowS_len HM.out hltz
      have hk20 := HM.out.2.1.2.2.1
      have HSN := Lib.hid (show lineL wScheme [h, f, l] ++ rowsS yo z (k + 1) = (lineL wScheme [h, f, l] ++ rowsS yo z k) ++ rowS (nth yo k) (nthL z k) by rw [rowsS_snoc, List.append_assoc])
      have HLT := Lib.hid (fun W => leafText_any (nth yo k) o0 ho6 W)
      have htx := text1_size (nth yo k)
      have HTX := Lib.hid (show rowS (nth yo k) (nthL z k) = lineL (wRowS ++ (textOf [nth yo k]).data.toList) (nthL z k) from rfl)
      generalize textOf [nth yo k] = tx at *
      have HRT := Lib.hid (show ((⟨#[114, 111, 119, 32]⟩ : ByteArray) ++ tx).data.toList = wRowS ++ tx.data.toList by simp [ByteArray.data_append, wRowS])
      have hrt : ((⟨#[114, 111, 119, 32]⟩ : ByteArray) ++ tx).size ≤ 1000 := by simp only [ByteArray.size_append]; show 4 + tx.size ≤ 1000; omega
      have k1 : ¬ 9223372036854775807 < 4 + tx.size := by omega
      have k2 : ¬ 9223372036854775807 < (⟨#[114, 111, 119, 32]⟩ : ByteArray).size + tx.size := by show ¬ _ < 4 + tx.size; omega
      have HLO := Lib.hid (fun W (hi : Ints W ai (nthL z k)) => lineOf_any ((⟨#[114, 111, 119, 32]⟩ : ByteArray) ++ tx) ai (nthL z k) ci W hi HDG.out (by omega) hrt)
      have HHD := Lib.hid (show (⟨(lineL ((⟨#[114, 111, 119, 32]⟩ : ByteArray) ++ tx).data.toList (nthL z k)).toArray⟩ : ByteArray).data.toList = rowS (nth yo k) (nthL z k) by rw [HRT.out, HTX.out])
      generalize (⟨(lineL ((⟨#[114, 111, 119, 32]⟩ : ByteArray) ++ tx).data.toList (nthL z k)).toArray⟩ : ByteArray) = tr at *
      have hds : tr.size ≤ 42 := by have := congrArg List.length HHD.out; rw [Array.length_toList] at this; show tr.data.size ≤ 42; omega
      have HCE := Lib.hid (show Lib.byteCells (lineL wScheme [h, f, l] ++ rowsS yo z k) ++ Lib.strCells tr = Lib.byteCells (lineL wScheme [h, f, l] ++ rowsS yo z (k + 1)) by
        rw [HSN.out, Lib.byteCells_append _ (rowS (nth yo k) (nthL z k)), Lib.strCells_eq, HHD.out])
      have MK := Lib.hid (show ∀ W, Below b w2 W → Below b w2 W ∧ W.cell? ⟨w.heap.size, 4, none⟩ = some (.slice (some ⟨rb, ro, none⟩) z.length c) ∧ W.cell? ⟨rb, ro + k, none⟩ = some (.slice ai (nthL z k).length ci) from fun W hb => ⟨hb, (hb.cell (p := ⟨w.heap.size, 4, none⟩) (by rw [← hbb]; exact HX2.out.lt)).trans HCX.out, (hb.cell (p := ⟨rb, ro + k, none⟩) lr2).trans HCR.out⟩)
      have HWL := Lib.hid hszr
      have HLN := Lib.hid (show (Lib.byteCells (lineL wScheme [h, f, l] ++ rowsS yo z k)).length + tr.size ≤ 100000000 by rw [Lib.byteCells_length, List.length_append]; have := shead_len HM.out; omega)
      clear hoc hrc ho2 hrow2 hints2 hdg hlen hrl hrs htx hds x4 hrt o0 o1 ho6
      go_wp2_with fail
      go_region_held3 (fun w' => Below b w2 w' ∧ w'.cell? ⟨w.heap.size, 4, none⟩ = some (.slice (some ⟨rb, ro, none⟩) z.length c) ∧ w'.cell? ⟨rb, ro + k, none⟩ = some (.slice ai (nthL z k).length ci)) (first | exact MK.out _ HBB.out.drew | exact MK.out _ EW.out | fail) (first | (go_at_call 29; refine (HLT.out _).mono ?_; rintro e wd ⟨rfl, hb⟩; have HD := Lib.hid ((drew_step wr).trans hb); have EW := Lib.hid (HBB.out.trans (HD.out.mono HWL.out))) | (go_at_call 21; refine (HLO.out _ (HIN.out.below EW.out (by omega))).mono ?_; rintro e wl ⟨rfl, rfl⟩) | (go_at_call 20; refine (writeString_any b b _ tr _ (isB_stepm HI.out HD.out) HLN.out (Nat.le_trans HWL.out HD.out.size)).mono ?_; rintro e wz ⟨rfl, hisb, hb6⟩; rw [HCE.out] at hisb; have H6 := Lib.hid hisb; have EW := Lib.hid ((HBB.out.trans (HD.out.mono HWL.out)).trans hb6)) | fail)
      all_goals (
        clear hisb hb6
        go_wp2_with fail
        go_roundw
        case rel => exact ⟨k + 1, by omega, by go_num, H6.out, EW.out⟩
        case measure => simp [intOf]; omega)
    · have HK := Lib.hid (show k = yo.length by omega)
      have hi := HI.out
      rw [HK.out] at hi
      have HI2 := Lib.hid hi
      clear hi
      go_wp2_with fail
      refine (Tryd.Builder_String_any b b _ wr HI2.out hszr).mono ?_
      rintro e w' ⟨rfl, hb7⟩
      have HB7 := Lib.hid (HBB.out.trans hb7)
      clear hb7
      go_wp2_with fail
      go_ret
      refine ⟨by rw [HV.out]; rfl, ?_⟩
      have h1 := HB7.out
      rw [← hbb] at h1
      exact HB2.out.trans (h1.mono HB2.out.size)
end Go.Proofs.YtedjildahjefkaaDoor

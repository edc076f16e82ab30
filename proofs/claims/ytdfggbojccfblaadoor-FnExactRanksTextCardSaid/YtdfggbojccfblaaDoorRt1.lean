/- RanksText of the program. -/
import Derived.Test.YtdfggbojccfblaaDoorLinN
import Derived.Test.YtdfggbojccfblaaDoorFt
import Derived.Test.YtdfggbojccfblaaDoorRvi
namespace Go.Proofs.YtdfggbojccfblaaDoor
open Go.RowKit Go.Deep
set_option linter.unusedVariables false

def wRanks : List UInt8 := [114, 97, 110, 107, 115]
def rkRow (z : List Int) (i : Nat) : List UInt8 := lineL (textOf (listOf i)).data.toList [nth z i]
def rkRowsTo (z : List Int) : Nat → List UInt8
  | 0 => []
  | k + 1 => rkRowsTo z k ++ rkRow z k
def rkHead (h l : Int) : List UInt8 := lineL wRanks [h, l]
/-- The text of ranks. -/
noncomputable def rkTextV (h l : Int) (z : List Int) : ByteArray := if tell (RkOk h l z) = true then ⟨(rkHead h l ++ rkRowsTo z z.length).toArray⟩ else ⟨#[]⟩
theorem rk_dig2 {h l : Int} {z : List Int} (k : RkOk h l z) : Digs [h, l] := fun i hi => by
  have h1 := k.1.1
  have h2 := k.1.2.1
  match i, hi with
  | 0, _ => simp [nth]; omega
  | 1, _ => simp [nth]; omega
theorem rk_dig1 {h l : Int} {z : List Int} (k : RkOk h l z) {i : Nat} (hi : i < z.length) : Digs [nth z i] := fun j hj => by
  have h1 := k.2.2.1 i hi
  match j, hj with
  | 0, _ => simp only [nth, List.getD_cons_zero] at h1 ⊢; omega
theorem small_text {k : Nat} (h : k < 128) : (textOf (listOf k)).size ≤ 8 := textOf_small (listOf k) (listTo_len _ 7)
theorem rkHead_len {h l : Int} {z : List Int} (k : RkOk h l z) : (rkHead h l).length ≤ 50 := by
  have := lineL_len wRanks _ (rk_dig2 k)
  unfold rkHead
  have e : wRanks.length = 5 := rfl
  simp only [List.length_cons, List.length_nil] at this
  omega
theorem rkRows_len {h l : Int} {z : List Int} (k : RkOk h l z) (hz : z.length ≤ 32) : ∀ j, j ≤ z.length → (rkRowsTo z j).length ≤ 31 * j
  | 0, _ => by simp [rkRowsTo]
  | j + 1, hj => by
    have h1 := rkRows_len k hz j (by omega)
    have h2 := lineL_len (textOf (listOf j)).data.toList _ (rk_dig1 k (show j < z.length by omega))
    have h3 := small_text (k := j) (by omega)
    have h4 : (textOf (listOf j)).data.toList.length = (textOf (listOf j)).size := Array.length_toList ..
    simp only [rkRowsTo, rkRow, List.length_append]
    simp only [List.length_cons, List.length_nil] at h2
    omega

set_option maxRecDepth 100000 in
set_option maxHeartbeats 2000000 in
theorem implRt_any (h l : Int) (a : Option Addr) (z : List Int) (c : Nat) (w : World) (hr : Ints w a z) (hl : LenI z) (ht : PowTab w) :
    Calls Tryd.prog 11 #[.agg #[.int .i64 h, .int .i64 l, .slice a z.length c]] w fun e w' => e = .returned (.string (rkTextV h l z)) ∧ Below w.heap.size w w' := by
  have HL := Lib.hid hl
  have hb0 := (Below.refl w.heap.size w).alloc (Nat.le_refl _) (.cells #[.int .i64 h, .int .i64 l, .slice a z.length c] 27)
  have HR := Lib.hid (hr.step hb0)
  have HX := Lib.hid (boxes_new w #[.int .i64 h, .int .i64 l, .slice a z.length c] 27)
  have HB0 := Lib.hid hb0
  have HPT := Lib.hid ht
  clear hr hl ht hb0
  go_enter Tryd.func11, Tryd.ntmps11
  go_wp2_with fail
  refine (implVr_any h l a z c _ HR.out HL.out).mono ?_
  generalize w.alloc (.cells #[.int .i64 h, .int .i64 l, .slice a z.length c] 27) = w1 at *
  rintro e w2 ⟨rfl, hb⟩
  have HB2 := Lib.hid (chain HB0.out hb)
  have HR2 := Lib.hid (HR.out.step hb)
  have HX2 := Lib.hid (HX.out.step hb)
  have x0 := HX2.out.m0
  have x1 := HX2.out.m1
  have x2 := HX2.out.m2
  have xl := HX2.out.lt
  have xl1 : w.heap.size < w2.heap.size + 1 := by omega
  clear hb HX HR
  by_cases hm : RkOk h l z
  case neg =>
    have HT := Lib.hid (tell_false hm)
    have HV := Lib.hid (show rkTextV h l z = ⟨#[]⟩ by rw [rkTextV, HT.out]; rfl)
    clear hm
    rw [HT.out]
    go_wp2_with fail
    go_ret
    exact ⟨by rw [HV.out]; rfl, HB2.out⟩
  have HT := Lib.hid (tell_true hm)
  have HM := Lib.hid hm
  have HV := Lib.hid (show rkTextV h l z = ⟨(rkHead h l ++ rkRowsTo z z.length).toArray⟩ by rw [rkTextV, HT.out]; rfl)
  have hz32 : z.length ≤ 32 := by rw [hm.1.2.2]; exact pow5 (by have := hm.1.1; omega)
  clear hm
  rw [HT.out]
  have HNEW := Lib.hid (show IsB w2.heap.size w2.heap.size [] (w2.alloc (.cells #[.pointer none, .slice none 0 0] 68)) from .inl ⟨Nat.le_refl _, .slice none 0 0, World.alloc_heap_new w2 _, World.ownsRow_nil _ _ _ _, by simp [Value.ownBlock]⟩)
  have HB3 := Lib.hid ((Below.refl w2.heap.size w2).alloc (Nat.le_refl _) (.cells #[.pointer none, .slice none 0 0] 68))
  go_wp2_with fail
  have hs3 : (w2.alloc (.cells #[.pointer none, .slice none 0 0] 68)).heap.size = w2.heap.size + 1 := by simp
  generalize w2.alloc (.cells #[.pointer none, .slice none 0 0] 68) = w3 at *
  have HI3 := Lib.hid (show Ints (w3.alloc (.cells #[.int .i64 h, .int .i64 l] 2)) (some ⟨w2.heap.size + 1, 0, none⟩) [h, l] by
    rw [← hs3]
    exact .inr ⟨w3.heap.size, 0, rfl, fun i hi => by
      match i, hi with
      | 0, _ => simp [nth]
      | 1, _ => simp [nth]⟩)
  have HB4 := Lib.hid ((Below.refl w3.heap.size w3).alloc (Nat.le_refl _) (.cells #[.int .i64 h, .int .i64 l] 2))
  have hs4 : (w3.alloc (.cells #[.int .i64 h, .int .i64 l] 2)).heap.size = w3.heap.size + 1 := by simp
  refine (lineOf_any ⟨#[114, 97, 110, 107, 115]⟩ _ [h, l] _ _ HI3.out (rk_dig2 HM.out) (by simp) (by decide) (((HPT.out.step HB2.out).step HB3.out).step HB4.out)).mono ?_
  generalize w3.alloc (.cells #[.int .i64 h, .int .i64 l] 2) = w4 at *
  rintro e w4' ⟨rfl, hb4'⟩
  have hhl := rkHead_len HM.out
  have HHD := Lib.hid (show (⟨(lineL (⟨#[114, 97, 110, 107, 115]⟩ : ByteArray).data.toList [h, l]).toArray⟩ : ByteArray).data.toList = rkHead h l from rfl)
  generalize (⟨(lineL (⟨#[114, 97, 110, 107, 115]⟩ : ByteArray).data.toList [h, l]).toArray⟩ : ByteArray) = hd at *
  have hds : hd.size ≤ 50 := by have := congrArg List.length HHD.out; rw [Array.length_toList] at this; show hd.data.size ≤ 50; omega
  have HCE := Lib.hid (show ([] : List Value) ++ Lib.strCells hd = Lib.byteCells (rkHead h l ++ rkRowsTo z 0) by
    rw [List.nil_append, Lib.strCells_eq, HHD.out]; simp [rkRowsTo])
  have HB4' := Lib.hid hb4'
  have hs4' := hb4'.size
  clear hb4'
  go_wp2_with fail
  refine (writeString_any w2.heap.size w2.heap.size [] hd w4' (isB_step (isB_step HNEW.out HB4.out (by omega)) HB4'.out (by omega)) (by simp; omega) (by omega)).mono ?_
  rintro e w5 ⟨rfl, hisb, hb5⟩
  rw [HCE.out] at hisb
  have HIS := Lib.hid hisb
  have HB5 := Lib.hid ((((HB3.out.trans (HB4.out.mono (by omega))).trans (HB4'.out.mono (by omega))).trans hb5))
  have y2 := (HB5.out.cell (p := ⟨w.heap.size, 2, none⟩) xl).trans x2
  have yl : w.heap.size < w5.heap.size := Nat.lt_of_lt_of_le xl HB5.out.size
  clear hisb hb5 HNEW HCE HHD hds x0 x1 x2 HI3
  generalize hbb : w2.heap.size = b at *
  go_wp2_with fail
  go_loopw [4, 5, 19] (fun q4 q5 i wr => ∃ k : Nat, k ≤ z.length ∧ i = .int .i64 k ∧ IsB b b (Lib.byteCells (rkHead h l ++ rkRowsTo z k)) wr ∧ Below b w2 wr)
    (fun _ _ i _ => z.length - (intOf i).toNat)
  case atStart => exact ⟨0, Nat.zero_le _, rfl, HIS.out, HB5.out⟩
  case round =>
    obtain ⟨k, hk, rfl, hisb, hbel⟩ := hrel
    have HI := Lib.hid hisb
    have HB := Lib.hid hbel
    have hszr : b ≤ wr.heap.size := by rw [← hbb]; exact hbel.size
    clear hisb HIS hbel
    by_cases hlt : k < z.length
    · rcases HR2.out.below HB.out (by omega) with hh | ⟨rb, ro, rfl, hc⟩
      · rw [hh] at hlt; exact absurd hlt (Nat.not_lt_zero _)
      have hcell := hc k hlt
      have hki : (k : Int) < (z.length : Int) := by omega
      have hk32 : (k : Int) < 32 := by omega
      have hdg := rk_dig1 HM.out hlt
      have hrl := rkRows_len HM.out hz32 k hk
      have htl := small_text (k := k) (by omega)
      have hll := lineL_len (textOf (listOf k)).data.toList _ hdg
      have h4 : (textOf (listOf k)).data.toList.length = (textOf (listOf k)).size := Array.length_toList ..
      have HSN := Lib.hid (show rkHead h l ++ rkRowsTo z (k + 1) = (rkHead h l ++ rkRowsTo z k) ++ lineL (textOf (listOf k)).data.toList [nth z k] by rw [rkRowsTo, List.append_assoc]; rfl)
      have HTXT := Lib.hid (implText_any k wr (by omega))
      simp only [List.length_cons, List.length_nil] at hll
      clear hc
      generalize textOf (listOf k) = tx at *
      generalize nth z k = x at *
      go_wp2_with (go_at_call 43; refine HTXT.out.mono ?_; rintro e wt ⟨rfl, hbt⟩; have HBT := Lib.hid hbt; have hst := hbt.size; clear hbt)
      have HI3 := Lib.hid (show Ints (wt.alloc (.cells #[.int .i64 x] 2)) (some ⟨wt.heap.size, 0, none⟩) [x] from .inr ⟨wt.heap.size, 0, rfl, fun i hi => by
        match i, hi with
        | 0, _ => simp [nth]⟩)
      have HB4 := Lib.hid ((Below.refl wt.heap.size wt).alloc (Nat.le_refl _) (.cells #[.int .i64 x] 2))
      have hs4 : (wt.alloc (.cells #[.int .i64 x] 2)).heap.size = wt.heap.size + 1 := by simp
      refine (lineOf_any tx _ [x] _ _ HI3.out hdg (by simp) (by omega) (((((HPT.out.step HB2.out).step (HB.out.mono (by omega))).step HBT.out)).step HB4.out)).mono ?_
      generalize wt.alloc (.cells #[.int .i64 x] 2) = w6 at *
      rintro e w7 ⟨rfl, hb7⟩
      have HHD := Lib.hid (show (⟨(lineL tx.data.toList [x]).toArray⟩ : ByteArray).data.toList = lineL tx.data.toList [x] from rfl)
      have hds : (⟨(lineL tx.data.toList [x]).toArray⟩ : ByteArray).size ≤ 31 := by show (lineL tx.data.toList [x]).toArray.size ≤ 31; rw [List.size_toArray]; omega
      generalize (⟨(lineL tx.data.toList [x]).toArray⟩ : ByteArray) = tr at *
      have HCE := Lib.hid (show Lib.byteCells (rkHead h l ++ rkRowsTo z k) ++ Lib.strCells tr = Lib.byteCells (rkHead h l ++ rkRowsTo z (k + 1)) by
        rw [HSN.out, Lib.byteCells_append _ (lineL tx.data.toList [x]), Lib.strCells_eq, HHD.out])
      have HB7 := Lib.hid hb7
      have hs7 := hb7.size
      clear hb7
      go_wp2_with fail
      refine (writeString_any b b _ tr w7 (isB_step (isB_step (isB_step HI.out HBT.out hszr) HB4.out (by omega)) HB7.out (by omega)) (by rw [Lib.byteCells_length, List.length_append]; omega) (by omega)).mono ?_
      rintro e w8 ⟨rfl, hisb, hb8⟩
      rw [HCE.out] at hisb
      have H8 := Lib.hid hisb
      have HB8 := Lib.hid ((((HB.out.trans (HBT.out.mono hszr)).trans (HB4.out.mono (by omega))).trans (HB7.out.mono (by omega))).trans hb8)
      clear hisb hb8
      go_wp2_with fail
      go_roundw
      case rel => exact ⟨k + 1, by omega, by go_num, H8.out, HB8.out⟩
      case measure => simp [intOf]; omega
    · have HK := Lib.hid (show k = z.length by omega)
      have hi := HI.out
      rw [HK.out] at hi
      have HI2 := Lib.hid hi
      clear hi
      go_wp2_with fail
      refine (Tryd.Builder_String_any b b _ wr HI2.out hszr).mono ?_
      rintro e w' ⟨rfl, hb7⟩
      have HB7 := Lib.hid (HB.out.trans hb7)
      clear hb7
      go_wp2_with fail
      go_ret
      refine ⟨by rw [HV.out]; rfl, ?_⟩
      have h1 := HB7.out
      rw [← hbb] at h1
      exact HB2.out.trans (h1.mono HB2.out.size)
end Go.Proofs.YtdfggbojccfblaaDoor

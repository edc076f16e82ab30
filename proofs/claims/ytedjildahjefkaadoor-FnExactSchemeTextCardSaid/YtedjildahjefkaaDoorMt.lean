/- MatrixText of the program. -/
import Derived.Test.YtedjildahjefkaaDoorLin
import Derived.Test.YtedjildahjefkaaDoorVm
namespace Go.Proofs.YtedjildahjefkaaDoor
open Go.RowKit Go.Deep
set_option linter.unusedVariables false

def wMatrix : List UInt8 := [109, 97, 116, 114, 105, 120]
def wRow : List UInt8 := [114, 111, 119]
def rowsT (zss : List (List Int)) : List UInt8 := (zss.map (lineL wRow)).flatten
def matText (p c : Int) (zss : List (List Int)) : List UInt8 := lineL wMatrix [p, c] ++ rowsT zss
noncomputable def matTextV (p c : Int) (zss : List (List Int)) : ByteArray := if tell (MatOk p c zss) = true then ⟨(matText p c zss).toArray⟩ else ⟨#[]⟩
theorem rowsT_snoc (zss : List (List Int)) {k : Nat} (h : k < zss.length) : rowsT (zss.take (k + 1)) = rowsT (zss.take k) ++ lineL wRow (nthL zss k) := by
  rw [nthL_lt h]
  simp only [rowsT, List.take_succ_eq_append_getElem h, List.map_append, List.flatten_append, List.map_cons, List.map_nil, List.flatten_cons, List.flatten_nil, List.append_nil]
theorem mat_digs {p c : Int} {zss : List (List Int)} (h : MatOk p c zss) {k : Nat} (hk : k < zss.length) : Digs (nthL zss k) ∧ (nthL zss k).length ≤ 12 :=
  ⟨fun i hi => by have := (h.2.2.2 k hk).2 i hi; have := h.1.2.1; unfold Elem at *; omega, by have := (h.2.2.2 k hk).1; have := h.2.1.2; omega⟩
theorem head_digs {p c : Int} {zss : List (List Int)} (h : MatOk p c zss) : Digs [p, c] := fun i hi => by
  have h1 := h.1.1; have h2 := h.1.2.1; have h3 := h.2.1
  match i, hi with
  | 0, _ => simp [nth]; omega
  | 1, _ => simp [nth]; omega
theorem rowsT_len {p c : Int} {zss : List (List Int)} (h : MatOk p c zss) (k : Nat) (hk : k ≤ zss.length) : (rowsT (zss.take k)).length ≤ 40 * k := by
  induction k with
  | zero => simp [rowsT]
  | succ k ih =>
    have h1 := ih (by omega)
    obtain ⟨h2, h3⟩ := mat_digs h (show k < zss.length by omega)
    have h4 := lineL_len wRow _ h2
    rw [rowsT_snoc zss (by omega), List.length_append]
    have : wRow.length = 3 := rfl
    omega
theorem head_len {p c : Int} {zss : List (List Int)} (h : MatOk p c zss) : (lineL wMatrix [p, c]).length ≤ 13 := by
  have := lineL_len wMatrix _ (head_digs h)
  have h1 : wMatrix.length = 6 := rfl
  simp only [List.length_cons, List.length_nil] at this
  omega
theorem isB_stepm {B b : Nat} {bs : List Value} {w w' : World} (h : IsB B b bs w) (hb : Below w.heap.size w w') : IsB B b bs w' := by
  have key : ∀ p, Lib.BuilderAt 50 5 B b p bs w → Lib.BuilderAt 50 5 B b p bs w' := fun p ⟨h1, v, h2, h3, h4⟩ =>
    ⟨h1, v, (hb.block b (Array.getElem?_eq_some_iff.1 h2).1).trans h2, row_step h3 hb, h4⟩
  exact h.imp (key _) (key _)

set_option maxRecDepth 100000 in
set_option maxHeartbeats 2000000 in
theorem implMt_any (p c : Int) (a : Option Addr) (zss : List (List Int)) (cc : Nat) (w : World) (hr : Rows2 w a zss) (hl : Lens zss) :
    Calls Tryd.prog 8 #[.agg #[.int .i64 p, .int .i64 c, .slice a zss.length cc]] w fun e w' => e = .returned (.string (matTextV p c zss)) ∧ Below w.heap.size w w' := by
  have HL := Lib.hid hl
  have hb0 := (Below.refl w.heap.size w).alloc (Nat.le_refl _) (.cells #[.int .i64 p, .int .i64 c, .slice a zss.length cc] 27)
  have HR := Lib.hid (hr.below hb0 (Nat.le_refl _))
  have HX := Lib.hid (show w.heap.size < (w.alloc (.cells #[.int .i64 p, .int .i64 c, .slice a zss.length cc] 27)).heap.size ∧ (w.alloc (.cells #[.int .i64 p, .int .i64 c, .slice a zss.length cc] 27)).cell? ⟨w.heap.size, 0, none⟩ = some (.int .i64 p) ∧ (w.alloc (.cells #[.int .i64 p, .int .i64 c, .slice a zss.length cc] 27)).cell? ⟨w.heap.size, 1, none⟩ = some (.int .i64 c) ∧ (w.alloc (.cells #[.int .i64 p, .int .i64 c, .slice a zss.length cc] 27)).cell? ⟨w.heap.size, 2, none⟩ = some (.slice a zss.length cc) from ⟨by simp, by simp, by simp, by simp⟩)
  clear hr hl
  go_enter Tryd.func8, Tryd.ntmps8
  go_wp2_with fail
  refine (implVm_any p c a zss cc _ HR.out HL.out).mono ?_
  generalize w.alloc (.cells #[.int .i64 p, .int .i64 c, .slice a zss.length cc] 27) = w1 at *
  rintro e w2 ⟨rfl, hb⟩
  have HB2 := Lib.hid (hb0.trans (hb.mono hb0.size))
  have HR2 := Lib.hid (HR.out.step hb)
  obtain ⟨q, q0, q1, q2⟩ := HX.out
  have x0 := cell_step hb q0
  have x1 := cell_step hb q1
  have x2 := cell_step hb q2
  have xl : w.heap.size < w2.heap.size := Nat.lt_of_lt_of_le q hb.size
  have xl1 : w.heap.size < w2.heap.size + 1 := by omega
  clear hb0 hb q q0 q1 q2 HX HR
  by_cases hm : MatOk p c zss
  case neg =>
    have HT := Lib.hid (tell_false hm)
    have HV := Lib.hid (show matTextV p c zss = ⟨#[]⟩ by rw [matTextV, HT.out]; rfl)
    clear hm
    rw [HT.out]
    go_wp2_with fail
    go_ret
    exact ⟨by rw [HV.out]; rfl, HB2.out⟩
  have HT := Lib.hid (tell_true hm)
  have HM := Lib.hid hm
  have HV := Lib.hid (show matTextV p c zss = ⟨(lineL wMatrix [p, c] ++ rowsT zss).toArray⟩ by rw [matTextV, HT.out]; rfl)
  clear hm
  rw [HT.out]
  have HNEW := Lib.hid (show IsB w2.heap.size w2.heap.size [] (w2.alloc (.cells #[.pointer none, .slice none 0 0] 50)) from .inl ⟨Nat.le_refl _, .slice none 0 0, World.alloc_heap_new w2 _, World.ownsRow_nil _ _ _ _, by simp [Value.ownBlock]⟩)
  have HB3 := Lib.hid ((Below.refl w2.heap.size w2).alloc (Nat.le_refl _) (.cells #[.pointer none, .slice none 0 0] 50))
  go_wp2_with fail
  have hs3 : (w2.alloc (.cells #[.pointer none, .slice none 0 0] 50)).heap.size = w2.heap.size + 1 := by simp
  generalize w2.alloc (.cells #[.pointer none, .slice none 0 0] 50) = w3 at *
  have HI3 := Lib.hid (show Ints (w3.alloc (.cells #[.int .i64 p, .int .i64 c] 2)) (some ⟨w2.heap.size + 1, 0, none⟩) [p, c] by
    rw [← hs3]
    exact .inr ⟨w3.heap.size, 0, rfl, fun i hi => by
      match i, hi with
      | 0, _ => simp [nth]
      | 1, _ => simp [nth]⟩)
  have HB4 := Lib.hid ((Below.refl w3.heap.size w3).alloc (Nat.le_refl _) (.cells #[.int .i64 p, .int .i64 c] 2))
  refine (lineOf_any ⟨#[109, 97, 116, 114, 105, 120]⟩ _ [p, c] _ _ HI3.out (head_digs HM.out) (by simp) (by decide)).mono ?_
  rintro e w' ⟨rfl, rfl⟩
  have hhl := head_len HM.out
  have HHD := Lib.hid (show (⟨(lineL (⟨#[109, 97, 116, 114, 105, 120]⟩ : ByteArray).data.toList [p, c]).toArray⟩ : ByteArray).data.toList = lineL wMatrix [p, c] from rfl)
  generalize (⟨(lineL (⟨#[109, 97, 116, 114, 105, 120]⟩ : ByteArray).data.toList [p, c]).toArray⟩ : ByteArray) = hd at *
  have hds : hd.size ≤ 13 := by have := congrArg List.length HHD.out; rw [Array.length_toList] at this; show hd.data.size ≤ 13; omega
  have HCE := Lib.hid (show ([] : List Value) ++ Lib.strCells hd = Lib.byteCells (lineL wMatrix [p, c] ++ rowsT (zss.take 0)) by
    rw [List.nil_append, Lib.strCells_eq, HHD.out]; simp [rowsT])
  go_wp2_with fail
  refine (writeString_any w2.heap.size w2.heap.size [] hd _ (isB_stepm HNEW.out HB4.out) (by simp; omega) (by simp; omega)).mono ?_
  generalize w3.alloc (.cells #[.int .i64 p, .int .i64 c] 2) = w4 at *
  rintro e w5 ⟨rfl, hisb, hb5⟩
  rw [HCE.out] at hisb
  have HIS := Lib.hid hisb
  have HB5 := Lib.hid (((HB3.out.trans (HB4.out.mono (by omega))).trans hb5))
  have y2 := (HB5.out.cell (p := ⟨w.heap.size, 2, none⟩) xl).trans x2
  have yl : w.heap.size < w5.heap.size := Nat.lt_of_lt_of_le xl HB5.out.size
  clear hisb hb5 HNEW HCE HHD hds x0 x1 x2 HI3
  generalize hbb : w2.heap.size = b at *
  go_wp2_with fail
  go_loopw [5, 19] (fun q5 i wr => ∃ k : Nat, k ≤ zss.length ∧ i = .int .i64 k ∧ IsB b b (Lib.byteCells (lineL wMatrix [p, c] ++ rowsT (zss.take k))) wr ∧ Below b w2 wr)
    (fun _ i _ => zss.length - (intOf i).toNat)
  case atStart => exact ⟨0, Nat.zero_le _, rfl, HIS.out, HB5.out⟩
  case round =>
    obtain ⟨k, hk, rfl, hisb, hbel⟩ := hrel
    have HI := Lib.hid hisb
    have HB := Lib.hid hbel
    have hszr : b ≤ wr.heap.size := by rw [← hbb]; exact hbel.size
    clear hisb HIS hbel
    by_cases hlt : k < zss.length
    · rcases HR2.out.below HB.out (by omega) with h | ⟨rb, ro, rfl, hc⟩
      · rw [h] at hlt; exact absurd hlt (Nat.not_lt_zero _)
      obtain ⟨ai, ci, hrow, hints⟩ := hc k hlt
      have hki : (k : Int) < (zss.length : Int) := by omega
      obtain ⟨hdg, hlen⟩ := mat_digs HM.out hlt
      have hll := lineL_len wRow _ hdg
      have hrl := rowsT_len HM.out k hk
      have hk20 := HM.out.2.2.1
      have HLI := Lib.hid (lineOf_any ⟨#[114, 111, 119]⟩ ai (nthL zss k) ci wr hints hdg (by omega) (by decide))
      have HSN := Lib.hid (show lineL wMatrix [p, c] ++ rowsT (zss.take (k + 1)) = (lineL wMatrix [p, c] ++ rowsT (zss.take k)) ++ lineL wRow (nthL zss k) by rw [rowsT_snoc zss hlt, List.append_assoc])
      clear hc hints
      go_wp2_with (go_at_call 21; refine HLI.out.mono ?_; rintro e w' ⟨rfl, rfl⟩)
      have HHD := Lib.hid (show (⟨(lineL (⟨#[114, 111, 119]⟩ : ByteArray).data.toList (nthL zss k)).toArray⟩ : ByteArray).data.toList = lineL wRow (nthL zss k) from rfl)
      generalize (⟨(lineL (⟨#[114, 111, 119]⟩ : ByteArray).data.toList (nthL zss k)).toArray⟩ : ByteArray) = tr at *
      have hds : tr.size ≤ 40 := by have := congrArg List.length HHD.out; have h3 : wRow.length = 3 := rfl; rw [Array.length_toList] at this; show tr.data.size ≤ 40; omega
      have HCE := Lib.hid (show Lib.byteCells (lineL wMatrix [p, c] ++ rowsT (zss.take k)) ++ Lib.strCells tr = Lib.byteCells (lineL wMatrix [p, c] ++ rowsT (zss.take (k + 1))) by
        rw [HSN.out, Lib.byteCells_append _ (lineL wRow (nthL zss k)), Lib.strCells_eq, HHD.out])
      refine (writeString_any b b _ tr wr HI.out (by rw [Lib.byteCells_length, List.length_append]; omega) hszr).mono ?_
      rintro e w6 ⟨rfl, hisb, hb6⟩
      rw [HCE.out] at hisb
      have H6 := Lib.hid hisb
      have HB6 := Lib.hid (HB.out.trans hb6)
      clear hisb hb6
      go_wp2_with fail
      go_roundw
      case rel => exact ⟨k + 1, by omega, by go_num, H6.out, HB6.out⟩
      case measure => simp [intOf]; omega
    · have HK := Lib.hid (show k = zss.length by omega)
      have hi := HI.out
      rw [HK.out, List.take_length] at hi
      have HI2 := Lib.hid hi
      clear hi
      go_wp2_with fail
      refine (Tryd.Builder_String_any b b _ wr HI2.out hszr).mono ?_
      rintro e w' ⟨rfl, hb7⟩
      have HB7 := Lib.hid (HB.out.trans hb7)
      clear hb7
      go_wp2_with fail
      go_ret
      refine ⟨by rw [HV.out]; rfl, ?_⟩
      have h1 := HB7.out
      rw [← hbb] at h1
      exact HB2.out.trans (h1.mono HB2.out.size)
end Go.Proofs.YtedjildahjefkaaDoor

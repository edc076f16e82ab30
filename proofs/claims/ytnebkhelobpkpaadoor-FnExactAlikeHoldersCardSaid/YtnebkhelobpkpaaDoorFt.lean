/- The program's FamilyText. -/
import Derived.Test.YtnebkhelobpkpaaDoorBld
import Derived.Test.YtnebkhelobpkpaaDoorTextI
import Derived.Test.YtnebkhelobpkpaaDoorGrpL
import Derived.Test.YtnebkhelobpkpaaDoorRrows
namespace Go.Proofs.YtnebkhelobpkpaaDoor
open Go.RowKit Go.Deep
set_option linter.unusedVariables false

set_option maxRecDepth 100000 in
theorem formatInt_any (i : Nat) (hi : i < 100) (w : World) : Calls Tryd.prog 147 #[.int .i64 i, .int .i64 10] w fun e w' => e = .returned (.string ⟨(Lib.decDigits i).toArray⟩) ∧ w = w' := by
  go_enter Tryd.func147, Tryd.ntmps147
  go_wp2_with fail
  refine (Tryd.internal_strconv_FormatInt_10_small i hi w).mono ?_
  rintro e w' ⟨rfl, rfl⟩
  go_wp2_with fail
  go_ret
  exact ⟨rfl, rfl⟩

def rowText (zs : List Int) : List UInt8 := (textOf zs).data.toList ++ [10]
def famHead (h : Nat) : List UInt8 := [102, 97, 109, 105, 108, 121, 32] ++ Lib.decDigits h ++ [10]
def rowsText (zss : List (List Int)) : List UInt8 := (zss.map rowText).flatten
def famText (h : Nat) (zss : List (List Int)) : List UInt8 := famHead h ++ rowsText zss
noncomputable def famTextV (h : Int) (zss : List (List Int)) : ByteArray := if tell (FamOk h zss) = true then ⟨(famText h.toNat zss).toArray⟩ else ⟨#[]⟩

theorem dec_small_fact : ∀ m : Fin 8, (Lib.decDigits m.val).length ≤ 20 := by decide +kernel
theorem dec_small (m : Nat) (h : m ≤ 7) : (⟨(Lib.decDigits m).toArray⟩ : ByteArray).size ≤ 20 := dec_small_fact ⟨m, by omega⟩
theorem famHead_len (m : Nat) (h : m ≤ 7) : (famHead m).length ≤ 28 := by
  have := dec_small_fact ⟨m, by omega⟩
  simp only [famHead, List.length_append, List.length_cons, List.length_nil]
  dsimp only at this
  omega
theorem textOf_len (zs : List Int) : (textOf zs).size ≤ zs.length + 1 := by
  unfold textOf
  split
  · show 1 ≤ _; omega
  · show (strOfNums (letters zs)).size ≤ _
    simp [strOfNums, letters, ByteArray.size]
theorem textOf_small (zs : List Int) (h : zs.length ≤ 7) : (textOf zs).size ≤ 8 := Nat.le_trans (textOf_len zs) (by omega)
theorem rowsText_snoc (zss : List (List Int)) {k : Nat} (h : k < zss.length) : rowsText (zss.take (k + 1)) = rowsText (zss.take k) ++ rowText zss[k] := by
  simp only [rowsText, List.take_succ_eq_append_getElem h, List.map_append, List.flatten_append, List.map_cons, List.map_nil, List.flatten_cons, List.flatten_nil, List.append_nil]
theorem rowsText_len (zss : List (List Int)) (k : Nat) (hg : ∀ r, r < zss.length → (nthL zss r).length ≤ 7) (hk : k ≤ zss.length) : (rowsText (zss.take k)).length ≤ 9 * k := by
  induction k with
  | zero => simp [rowsText]
  | succ k ih =>
    have h1 := ih (by omega)
    have h2 := hg k (by omega)
    rw [nthL_lt (by omega)] at h2
    have h3 := textOf_small _ h2
    rw [List.take_succ_eq_append_getElem (by omega)]
    simp only [rowsText, List.map_append, List.flatten_append, List.length_append, List.map_cons, List.map_nil, List.flatten_cons, List.flatten_nil, List.append_nil, rowText, List.length_cons, List.length_nil] at h1 ⊢
    have h4 : (textOf zss[k]).data.toList.length = (textOf zss[k]).size := by rw [Array.length_toList]; rfl
    omega
theorem grp7 {n : Int} {l : List Int} (h : IsGrp n l) (hn : n ≤ 7) : IsGrp 7 l := fun i hi => ⟨(h i hi).1, by have := (h i hi).2.1; omega, (h i hi).2.2⟩
theorem row_cell' {W : World} {base e n c : Nat} {a : Option Addr} {xs : List Value} (h : W.ownsRow base e 1 (.slice a n c) n xs) {k : Nat} (hk : k < n) : ∃ g, a = some ⟨g, 0, none⟩ ∧ W.cell? ⟨g, k, none⟩ = xs[k]? := by
  rcases h.2 with ⟨hv, hn⟩ | ⟨g, cap, cur, hv, _⟩
  · cases hv; omega
  · cases hv
    exact ⟨g, rfl, World.ownsRow.cellAt h k (by omega)⟩
theorem row_below {W W' : World} {base e n b : Nat} {v : Value} {xs : List Value} (h : W.ownsRow base e 1 v n xs) (hb : W.heap.size = b) (hbel : Below b W W') : W'.ownsRow base e 1 v n xs := by
  refine ⟨h.1, ?_⟩
  rcases h.2 with h2 | ⟨g, cap, cur, hv, hg, hh, r⟩
  · exact .inl h2
  · exact .inr ⟨g, cap, cur, hv, hg, by rw [hbel.block g (by rw [← hb]; exact (Array.getElem?_eq_some_iff.1 hh).1)]; exact hh, r⟩
theorem isB_step {B b : Nat} {bs : List Value} {w w' : World} (h : IsB B b bs w) (hb : Below w.heap.size w w') (hB : B ≤ w.heap.size) : IsB B b bs w' := by
  have key : ∀ p, Lib.BuilderAt 212 5 B b p bs w → Lib.BuilderAt 212 5 B b p bs w' := fun p ⟨h1, v, h2, h3, h4⟩ =>
    ⟨h1, v, (hb.block b (Array.getElem?_eq_some_iff.1 h2).1).trans h2, row_below h3 rfl hb, h4⟩
  exact h.imp (key _) (key _)

set_option maxRecDepth 100000 in
set_option maxHeartbeats 2000000 in
theorem implFamText_any (h : Int) (a : Option Addr) (zss : List (List Int)) (c : Nat) (w : World) (hr : Rows2 w a zss) (hs : Small2 zss) :
    Calls Tryd.prog 123 #[.agg #[.int .i64 h, .slice a zss.length c]] w fun e w' => e = .returned (.string (famTextV h zss)) ∧ Below w.heap.size w w' := by
  have HS := Lib.hid hs
  have hb0 := (Below.refl w.heap.size w).alloc (Nat.le_refl _) (.cells #[.int .i64 h, .slice a zss.length c] 29)
  have HR := Lib.hid (hr.step hb0)
  clear hs hr
  go_enter Tryd.func123, Tryd.ntmps123
  go_wp2_with fail
  have p0 : (w.alloc (.cells #[.int .i64 h, .slice a zss.length c] 29)).cell? ⟨w.heap.size, 0, none⟩ = some (.int .i64 h) := by simp
  refine (leastSets_any h a zss c _ HR.out HS.out).mono ?_
  generalize w.alloc (.cells #[.int .i64 h, .slice a zss.length c] 29) = w1 at *
  rintro e w2 ⟨⟨v, rfl, hrow⟩, hb⟩
  have B2 := Lib.hid (chain hb0 hb)
  have q0 := cell_step hb p0
  clear hb0 p0 hb
  by_cases hok : FamOk h zss
  · have HT := Lib.hid (tell_true hok)
    rw [HT.out]
    have HOK := Lib.hid hok
    have hrow2 := hrow hok
    obtain ⟨va, vc, rfl⟩ := rowForm' hrow2
    obtain ⟨m, rfl⟩ : ∃ m : Nat, h = (m : Int) := ⟨h.toNat, by have := hok.1; omega⟩
    have hm : m < 100 := by have := hok.1; omega
    have HROW := Lib.hid hrow2
    clear hrow hrow2 hok
    have hs2 : w.heap.size < w2.heap.size := World.block_lt_of_cell? _ _ q0
    have HDL := Lib.hid (show (⟨(Lib.decDigits m).toArray⟩ : ByteArray).data.toList = Lib.decDigits m from rfl)
    have hdl : (⟨(Lib.decDigits m).toArray⟩ : ByteArray).size ≤ 20 := dec_small m (by have := HOK.out.1; omega)
    have hfi := formatInt_any m hm
    generalize (⟨(Lib.decDigits m).toArray⟩ : ByteArray) = ds at *
    have hnew : IsB w2.heap.size w2.heap.size [] (w2.alloc (.cells #[.pointer none, .slice none 0 0] 212)) := .inl ⟨Nat.le_refl _, .slice none 0 0, World.alloc_heap_new w2 _, World.ownsRow_nil _ _ _ _, by simp [Value.ownBlock]⟩
    have hb2 := (Below.refl w2.heap.size w2).alloc (Nat.le_refl _) (.cells #[.pointer none, .slice none 0 0] 212)
    have hsa : w2.heap.size ≤ (w2.alloc (.cells #[.pointer none, .slice none 0 0] 212)).heap.size := by simp
    have HFI := Lib.hid hfi
    have HNEW := Lib.hid hnew
    clear hfi hnew
    go_wp2_with (go_at_call 147; refine (HFI.out _).mono ?_; rintro e w' ⟨rfl, rfl⟩)
    have hsize : ((⟨#[102, 97, 109, 105, 108, 121, 32]⟩ : ByteArray) ++ ds ++ ⟨#[10]⟩).size ≤ 28 := by simp only [ByteArray.size_append]; show 7 + ds.size + 1 ≤ 28; omega
    have HHD := Lib.hid (show ([] : List Value) ++ Lib.strCells ((⟨#[102, 97, 109, 105, 108, 121, 32]⟩ : ByteArray) ++ ds ++ ⟨#[10]⟩) = Lib.byteCells (famHead m) by
      rw [List.nil_append, Lib.strCells_eq, famHead, ← HDL.out]; simp [ByteArray.data_append])
    generalize ((⟨#[102, 97, 109, 105, 108, 121, 32]⟩ : ByteArray) ++ ds ++ ⟨#[10]⟩) = hd at *
    refine (writeString_any w2.heap.size w2.heap.size [] hd _ HNEW.out (by simp; omega) hsa).mono ?_
    generalize w2.alloc (.cells #[.pointer none, .slice none 0 0] 212) = w3 at *
    rintro e w4 ⟨rfl, hisb, hb4⟩
    rw [HHD.out] at hisb
    have B4 := Lib.hid (hb2.trans hb4)
    have ISB := Lib.hid hisb
    clear hisb hb4 hb2 HNEW hsa q0
    generalize hbb : w2.heap.size = b at *
    go_wp2_with fail
    have h8 := HS.out.1
    go_loopw [23] (fun i wr => ∃ k : Nat, k ≤ zss.length ∧ i = .int .i64 k ∧ IsB b b (Lib.byteCells (famHead m ++ rowsText (zss.take k))) wr ∧ Below b w2 wr)
      (fun i _ => zss.length - (intOf i).toNat)
    case atStart => exact ⟨0, Nat.zero_le _, rfl, by simpa [rowsText] using ISB.out, B4.out⟩
    case round =>
      obtain ⟨k, hk, rfl, hisb, hbel⟩ := hrel
      have HI := Lib.hid hisb
      have HB := Lib.hid hbel
      clear hisb ISB
      have hszr : b ≤ wr.heap.size := by rw [← hbb]; exact hbel.size
      by_cases hlt : k < zss.length
      · have hrow2 := row_below HROW.out hbb hbel
        obtain ⟨g, rfl, hc⟩ := row_cell' hrow2 hlt
        rw [show (setVals (bitsUpTo zss zss.length))[k]? = some (.int .u64 ((bitsOf (nthL zss k) : Nat) : Int)) by simp [setVals, bitsUpTo, hlt]] at hc
        have hgr := (HOK.out.2.1 k hlt).1
        have hx := bitsOf_lt hgr (by have := HOK.out.1; omega)
        have HTX := Lib.hid (show listOf (bitsOf (nthL zss k)) = nthL zss k from listOf_bitsOf hgr (by have := HOK.out.1; omega))
        have hki : (k : Int) < (zss.length : Int) := by omega
        have hit := implText_any (bitsOf (nthL zss k)) wr hx
        have hts := textOf_small (listOf (bitsOf (nthL zss k))) (Nat.le_trans (listTo_len _ 7) (by omega))
        have HST := Lib.hid (show famHead m ++ rowsText (zss.take (k + 1)) = (famHead m ++ rowsText (zss.take k)) ++ ((textOf (listOf (bitsOf (nthL zss k)))).data.toList ++ [10]) by
          rw [HTX.out, nthL_lt hlt, rowsText_snoc zss hlt, List.append_assoc]; rfl)
        have hlen := rowsText_len zss k (fun r hr => by have := (HOK.out.2.1 r hr).1; exact Nat.le_trans (grp_len (grp7 this (by have := HOK.out.1; omega))) (by omega)) hk
        have hhl := famHead_len m (by have := HOK.out.1; omega)
        generalize textOf (listOf (bitsOf (nthL zss k))) = tx at *
        generalize (bitsOf (nthL zss k)) = xb at *
        have HIT := Lib.hid hit
        clear hit hbel hrow2 hgr
        go_wp2_with (go_at_call 148; refine HIT.out.mono ?_; rintro e w' ⟨rfl, hb5⟩; have H5 := Lib.hid hb5; have hs5 := hb5.size; clear hb5 hc)
        have hsz2 : (tx ++ ⟨#[10]⟩ : ByteArray).size ≤ 9 := by simp only [ByteArray.size_append]; show tx.size + 1 ≤ 9; omega
        have HHR := Lib.hid (show Lib.byteCells (famHead m ++ rowsText (zss.take k)) ++ Lib.strCells (tx ++ ⟨#[10]⟩ : ByteArray) = Lib.byteCells (famHead m ++ rowsText (zss.take (k + 1))) by
          rw [HST.out, Lib.byteCells_append _ (tx.data.toList ++ [10]), Lib.strCells_eq]; simp [ByteArray.data_append])
        generalize (tx ++ ⟨#[10]⟩ : ByteArray) = tr at *
        refine (writeString_any b b _ tr w' (isB_step HI.out H5.out hszr) (by rw [Lib.byteCells_length, List.length_append]; omega) (by omega)).mono ?_
        rintro e w6 ⟨rfl, hisb, hb6⟩
        rw [HHR.out] at hisb
        have H6 := Lib.hid hisb
        have HB6 := Lib.hid ((HB.out.trans (H5.out.mono hszr)).trans hb6)
        clear hisb hb6
        go_wp2_with fail
        go_roundw
        case rel => exact ⟨k + 1, by omega, by go_num, H6.out, HB6.out⟩
        case measure => simp [intOf]; omega
      · have HK := Lib.hid (show k = zss.length by omega)
        have HV := Lib.hid (show famTextV (m : Int) zss = ⟨(famHead m ++ rowsText zss).toArray⟩ by rw [famTextV, if_pos HT.out, Int.toNat_natCast]; rfl)
        have hi := HI.out
        rw [HK.out, List.take_length] at hi
        have HI2 := Lib.hid hi
        clear hi hbel
        go_wp2_with fail
        refine (Tryd.Builder_String_any b b _ wr HI2.out hszr).mono ?_
        rintro e w' ⟨rfl, hb7⟩
        have HB7 := Lib.hid (HB.out.trans hb7)
        clear hb7
        go_wp2_with fail
        go_ret
        refine ⟨by rw [HV.out]; rfl, ?_⟩
        have h1 := HB7.out
        rw [← hbb] at h1
        exact chain B2.out h1
  · have HT := Lib.hid (tell_false hok)
    rw [HT.out]
    have HV := Lib.hid (show famTextV h zss = ⟨#[]⟩ by rw [famTextV, if_neg (by rw [HT.out]; simp)])
    clear hok hrow
    go_wp2_with fail
    go_ret
    exact ⟨by rw [HV.out]; rfl, B2.out⟩
end Go.Proofs.YtnebkhelobpkpaaDoor

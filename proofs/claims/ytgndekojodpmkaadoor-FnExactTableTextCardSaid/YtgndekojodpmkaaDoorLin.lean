/- lineOf of the program; texts of lines; FormatInt, Decimal of small numbers. -/
import Derived.Test.YtgndekojodpmkaaDoorBld
import Derived.Test.YtgndekojodpmkaaDoorPrm
namespace Go.Proofs.YtgndekojodpmkaaDoor
open Go.RowKit Go.Deep
set_option linter.unusedVariables false

set_option maxRecDepth 100000 in
theorem fmt_any (i : Nat) (hi : i < 100) (w : World) : Calls Tryd.prog 41 #[.int .i64 i, .int .i64 10] w fun e w' => e = .returned (.string ⟨(Lib.decDigits i).toArray⟩) ∧ w = w' := by
  go_enter Tryd.func41, Tryd.ntmps41
  go_wp2_with fail
  refine (Tryd.internal_strconv_FormatInt_10_small i hi w).mono ?_
  rintro e w' ⟨rfl, rfl⟩
  go_wp2_with fail
  go_ret
  exact ⟨rfl, rfl⟩

/-- The text of numbers behind blanks. -/
def numText (zs : List Int) : List UInt8 := (zs.map fun z => 32 :: Lib.decDigits z.toNat).flatten
def lineL (wd : List UInt8) (zs : List Int) : List UInt8 := wd ++ numText zs ++ [10]
/-- Numbers of one or two digits. -/
def Digs (zs : List Int) : Prop := ∀ i, i < zs.length → 0 ≤ nth zs i ∧ nth zs i < 100
theorem dec_two_fact : ∀ m : Fin 100, (Lib.decDigits m.val).length ≤ 2 := by decide +kernel
theorem dec_two (m : Nat) (h : m < 100) : (Lib.decDigits m).length ≤ 2 := dec_two_fact ⟨m, h⟩
theorem numText_snoc (zs : List Int) {k : Nat} (h : k < zs.length) : numText (zs.take (k + 1)) = numText (zs.take k) ++ (32 :: Lib.decDigits (nth zs k).toNat) := by
  rw [nth_lt h]
  simp only [numText, List.take_succ_eq_append_getElem h, List.map_append, List.flatten_append, List.map_cons, List.map_nil, List.flatten_cons, List.flatten_nil, List.append_nil]
theorem numText_len (zs : List Int) (hd : Digs zs) (k : Nat) (hk : k ≤ zs.length) : (numText (zs.take k)).length ≤ 3 * k := by
  induction k with
  | zero => simp [numText]
  | succ k ih =>
    have h1 := ih (by omega)
    have h2 := dec_two (nth zs k).toNat (by have := hd k (by omega); omega)
    rw [numText_snoc zs (by omega), List.length_append, List.length_cons]
    omega
theorem lineL_len (wd : List UInt8) (zs : List Int) (hd : Digs zs) : (lineL wd zs).length ≤ wd.length + 3 * zs.length + 1 := by
  have := numText_len zs hd zs.length (Nat.le_refl _)
  rw [List.take_length] at this
  simp only [lineL, List.length_append, List.length_cons, List.length_nil]
  omega

set_option maxRecDepth 100000 in
set_option maxHeartbeats 1000000 in
theorem lineOf_any (wd : ByteArray) (a : Option Addr) (zs : List Int) (cc : Nat) (w : World) (h : Ints w a zs) (hd : Digs zs) (hl : zs.length ≤ 1000) (hw : wd.size ≤ 1000) :
    Calls Tryd.prog 40 #[.string wd, .slice a zs.length cc] w fun e w' => e = .returned (.string ⟨(lineL wd.data.toList zs).toArray⟩) ∧ w = w' := by
  have HI := Lib.hid h
  have HD := Lib.hid hd
  clear h hd
  go_enter Tryd.func40, Tryd.ntmps40
  go_wp2_with fail
  go_loop [0, 6, 9] (fun s q i => ∃ (k : Nat) (t : ByteArray), k ≤ zs.length ∧ i = .int .i64 k ∧ s = .string t ∧ t = ⟨(wd.data.toList ++ numText (zs.take k)).toArray⟩ ∧ t.size ≤ 1000 + 3 * k)
    (fun _ _ i => zs.length - (intOf i).toNat)
  case atStart => exact ⟨0, wd, Nat.zero_le _, rfl, rfl, by simp [numText], by omega⟩
  case round =>
    obtain ⟨k, t, hk, rfl, rfl, ht, hts⟩ := hrel
    have HT := Lib.hid ht
    clear ht
    by_cases hlt : k < zs.length
    · rcases HI.out with h | ⟨b, o, rfl, hc⟩
      · rw [h] at hlt; exact absurd hlt (Nat.not_lt_zero _)
      have hcell := hc k hlt
      have hi0 : (k : Int) < (zs.length : Int) := by omega
      obtain ⟨z0, z1⟩ := HD.out k hlt
      obtain ⟨m, hm⟩ : ∃ m : Nat, nth zs k = (m : Int) := ⟨(nth zs k).toNat, by omega⟩
      have HST := Lib.hid (show wd.data.toList ++ numText (zs.take (k + 1)) = (wd.data.toList ++ numText (zs.take k)) ++ (32 :: Lib.decDigits m) by
        rw [numText_snoc zs hlt, hm, Int.toNat_natCast, List.append_assoc])
      rw [hm] at hcell z1
      have hm1 : m < 100 := by omega
      have hfi := fmt_any m hm1
      have HDL := Lib.hid (show (⟨(Lib.decDigits m).toArray⟩ : ByteArray).data.toList = Lib.decDigits m from rfl)
      have hdl : (⟨(Lib.decDigits m).toArray⟩ : ByteArray).size ≤ 2 := by have := dec_two m hm1; simpa [ByteArray.size] using this
      generalize (⟨(Lib.decDigits m).toArray⟩ : ByteArray) = ds at *
      have HFI := Lib.hid hfi
      clear hc hfi hm z0 z1
      go_wp2_with (go_at_call 41; refine (HFI.out _).mono ?_; rintro e w' ⟨rfl, rfl⟩)
      go_round
      case rel =>
        refine ⟨k + 1, t ++ ((⟨#[32]⟩ : ByteArray) ++ ds), by omega, by go_num, rfl, ?_, ?_⟩
        · rw [HST.out]
          apply ByteArray.ext
          apply Array.toList_inj.1
          have := congrArg (fun b : ByteArray => b.data.toList) HT.out
          simp [ByteArray.data_append] at this ⊢
          rw [this, ← HDL.out]; simp
        · simp only [ByteArray.size_append]; show t.size + (1 + ds.size) ≤ _; omega
      case measure => simp [intOf]; omega
    · have HE := Lib.hid (show k = zs.length by omega)
      go_wp2_with fail
      go_ret
      refine ⟨?_, rfl⟩
      have h1 := HT.out
      rw [HE.out, List.take_length] at h1
      rw [h1]
      unfold lineL
      congr 1
end Go.Proofs.YtgndekojodpmkaaDoor

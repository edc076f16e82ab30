/- lineOf of the program for numbers of up to six digits (on chapter 1's kit); texts of lines. -/
import Derived.Test.YthmjcmhaijiedaaDoorBld
import Derived.Test.YthmjcmhaijiedaaDoorDecN
import Derived.Test.YthmjcmhaijiedaaDoorFmtN
namespace Go.Proofs.YthmjcmhaijiedaaDoor
open Go.RowKit Go.Deep
set_option linter.unusedVariables false

/-- The text of numbers behind blanks. -/
def numText (zs : List Int) : List UInt8 := (zs.map fun z => 32 :: Lib.decDigits z.toNat).flatten
def lineL (wd : List UInt8) (zs : List Int) : List UInt8 := wd ++ numText zs ++ [10]
/-- Numbers of up to twelve digits. -/
def Digs (zs : List Int) : Prop := ∀ i, i < zs.length → 0 ≤ nth zs i ∧ nth zs i < 1000000000000
theorem numText_snoc (zs : List Int) {k : Nat} (h : k < zs.length) : numText (zs.take (k + 1)) = numText (zs.take k) ++ (32 :: Lib.decDigits (nth zs k).toNat) := by
  rw [nth_lt h]
  simp only [numText, List.take_succ_eq_append_getElem h, List.map_append, List.flatten_append, List.map_cons, List.map_nil, List.flatten_cons, List.flatten_nil, List.append_nil]
theorem dig_len {x : Int} (h0 : 0 ≤ x) (h1 : x < 1000000000000) : (Lib.decDigits x.toNat).length ≤ 21 := by
  have := digs_size (n := x.toNat) (by omega)
  simpa [ByteArray.size] using this
theorem numText_len (zs : List Int) (hd : Digs zs) (k : Nat) (hk : k ≤ zs.length) : (numText (zs.take k)).length ≤ 22 * k := by
  induction k with
  | zero => simp [numText]
  | succ k ih =>
    have h1 := ih (by omega)
    have h2 := dig_len (hd k (by omega)).1 (hd k (by omega)).2
    rw [numText_snoc zs (by omega), List.length_append, List.length_cons]
    omega
theorem lineL_len (wd : List UInt8) (zs : List Int) (hd : Digs zs) : (lineL wd zs).length ≤ wd.length + 22 * zs.length + 1 := by
  have := numText_len zs hd zs.length (Nat.le_refl _)
  rw [List.take_length] at this
  simp only [lineL, List.length_append, List.length_cons, List.length_nil]
  omega

set_option maxRecDepth 100000 in
set_option maxHeartbeats 1000000 in
theorem lineOf_any (wd : ByteArray) (a : Option Addr) (zs : List Int) (cc : Nat) (w : World) (h : Ints w a zs) (hd : Digs zs) (hl : zs.length ≤ 1000) (hw : wd.size ≤ 1000) (ht : PowTab w) :
    Calls Tryd.prog 70 #[.string wd, .slice a zs.length cc] w fun e w' => e = .returned (.string ⟨(lineL wd.data.toList zs).toArray⟩) ∧ Below w.heap.size w w' := by
  have HI := Lib.hid h
  have HD := Lib.hid hd
  have HT := Lib.hid ht
  clear h hd ht
  go_enter Tryd.func70, Tryd.ntmps70
  go_wp2_with fail
  go_loopw [0, 6, 9] (fun s q i wr => ∃ (k : Nat) (t : ByteArray), k ≤ zs.length ∧ i = .int .i64 k ∧ s = .string t ∧ t = ⟨(wd.data.toList ++ numText (zs.take k)).toArray⟩ ∧ t.size ≤ 1000 + 22 * k ∧ Below w.heap.size w wr)
    (fun _ _ i _ => zs.length - (intOf i).toNat)
  case atStart => exact ⟨0, wd, Nat.zero_le _, rfl, rfl, by simp [numText], by omega, Below.refl _ _⟩
  case round =>
    obtain ⟨k, t, hk, rfl, rfl, ht, hts, hb⟩ := hrel
    have HTT := Lib.hid ht
    have HB := Lib.hid hb
    clear ht hb
    by_cases hlt : k < zs.length
    · rcases HI.out.below HB.out (Nat.le_refl _) with h | ⟨b, o, rfl, hc⟩
      · rw [h] at hlt; exact absurd hlt (Nat.not_lt_zero _)
      have hcell := hc k hlt
      have hi0 : (k : Int) < (zs.length : Int) := by omega
      obtain ⟨z0, z1⟩ := HD.out k hlt
      have HST := Lib.hid (show wd.data.toList ++ numText (zs.take (k + 1)) = (wd.data.toList ++ numText (zs.take k)) ++ (32 :: Lib.decDigits (nth zs k).toNat) by
        rw [numText_snoc zs hlt, List.append_assoc])
      have hfi := fmtN_any (nth zs k) z0 z1 wr (HT.out.step HB.out)
      have HDL := Lib.hid (show (⟨(Lib.decDigits (nth zs k).toNat).toArray⟩ : ByteArray).data.toList = Lib.decDigits (nth zs k).toNat from rfl)
      have hdl := digs_size (n := (nth zs k).toNat) (by omega)
      generalize (⟨(Lib.decDigits (nth zs k).toNat).toArray⟩ : ByteArray) = ds at *
      have HFI := Lib.hid hfi
      clear hc hfi z0 z1
      generalize nth zs k = x at *
      go_wp2_with (go_at_call 112; refine (HFI.out).mono ?_; rintro e wd' ⟨rfl, hbd⟩; have HBD := Lib.hid (HB.out.trans (hbd.mono HB.out.size)); clear hbd)
      go_roundw
      case rel =>
        refine ⟨k + 1, t ++ ((⟨#[32]⟩ : ByteArray) ++ ds), by omega, by go_num, rfl, ?_, ?_, HBD.out⟩
        · rw [HST.out]
          apply ByteArray.ext
          apply Array.toList_inj.1
          have := congrArg (fun b : ByteArray => b.data.toList) HTT.out
          simp [ByteArray.data_append] at this ⊢
          rw [this, ← HDL.out]; simp
        · simp only [ByteArray.size_append]; show t.size + (1 + ds.size) ≤ _; omega
      case measure => simp [intOf]; omega
    · have HE := Lib.hid (show k = zs.length by omega)
      go_wp2_with fail
      go_ret
      refine ⟨?_, HB.out⟩
      have h1 := HTT.out
      rw [HE.out, List.take_length] at h1
      rw [h1]
      unfold lineL
      congr 1
end Go.Proofs.YthmjcmhaijiedaaDoor

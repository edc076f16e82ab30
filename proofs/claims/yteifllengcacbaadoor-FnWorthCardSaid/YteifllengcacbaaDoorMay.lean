/- MayOpen, the model's and the program's. -/
import Derived.Test.YteifllengcacbaaDoorTbl
import Derived.Test.YteifllengcacbaaDoorTof
namespace Go.Proofs.YteifllengcacbaaDoor
open Go.RowKit Go.Deep Go.Shelf
set_option linter.unusedVariables false

theorem bitsTo_lt2 {m : Nat} {l : List Int} (h : IsGrp (m : Int) l) : ∀ k, k ≤ l.length → bitsTo l k < 2 ^ m
  | 0, _ => by simp [bitsTo, Nat.pow_pos]
  | k + 1, hk => by
    have h1 := bitsTo_lt2 h k (by omega)
    obtain ⟨h2, h3, _⟩ := h k (by omega)
    exact Nat.or_lt_two_pow h1 (Nat.pow_lt_pow_right (by omega) (by omega))
theorem bitsOf_lt2 {m : Nat} {l : List Int} (h : IsGrp (m : Int) l) : bitsOf l < 2 ^ m := bitsTo_lt2 h _ (Nat.le_refl _)
theorem tabOf_at {m : Nat} {zss : List (List Int)} (h7 : m ≤ 7) {x : Nat} (hx : x < 2 ^ m) : tabOf (m : Int) zss x = tblAt zss zss.length x := by
  unfold tabOf; rw [Int.toNat_natCast]; exact seenBy_all h7 _ hx

noncomputable def mayB (h : Int) (zss : List (List Int)) (zs : List Int) : Bool := if tell (FamOk h zss ∧ IsGrp h zs) = true then tblAt zss zss.length (bitsOf zs) else false
noncomputable def mayC (h : Int) (zss : List (List Int)) (zs : List Int) : Int := if tell (FamOk h zss) = true then (if tell (IsGrp h zs) = true then 0 else 2) else 1
theorem may_bad {h : Int} {zss : List (List Int)} {zs : List Int} (k : ¬ FamOk h zss) : mayB h zss zs = false ∧ mayC h zss zs = 1 := by
  constructor
  · rw [mayB, if_neg]; rw [tell_false (fun q => k q.1)]; simp
  · rw [mayC, if_neg]; rw [tell_false k]; simp
theorem may_out {h : Int} {zss : List (List Int)} {zs : List Int} (k : FamOk h zss) (g : ¬ IsGrp h zs) : mayB h zss zs = false ∧ mayC h zss zs = 2 := by
  constructor
  · rw [mayB, if_neg]; rw [tell_false (fun q => g q.2)]; simp
  · rw [mayC, if_pos (tell_true k), if_neg]; rw [tell_false g]; simp
theorem may_in {h : Int} {zss : List (List Int)} {zs : List Int} (k : FamOk h zss) (g : IsGrp h zs) : mayB h zss zs = tblAt zss zss.length (bitsOf zs) ∧ mayC h zss zs = 0 :=
  ⟨by rw [mayB, if_pos (tell_true ⟨k, g⟩)], by rw [mayC, if_pos (tell_true k), if_pos (tell_true g)]⟩

set_option maxHeartbeats 1000000 in
set_option maxRecDepth 100000 in
theorem implMay_any (h : Int) (a : Option Addr) (zss : List (List Int)) (c : Nat) (b : Option Addr) (zs : List Int) (d : Nat) (w : World) (hr : Rows2 w a zss) (hl : Small2 zss) (hi : Ints w b zs) (hil : zs.length ≤ 1048576) :
    Calls Tryd.prog 14 #[.agg #[.int .i64 h, .slice a zss.length c], .slice b zs.length d] w fun e w' => e = .returned (.tuple #[.bool (mayB h zss zs), .int .i64 (mayC h zss zs)]) ∧ Below w.heap.size w w' := by
  have hb1 := (Below.refl w.heap.size w).alloc (Nat.le_refl _) (.cells #[.int .i64 h, .slice a zss.length c] 26)
  have c0 : (w.alloc (.cells #[.int .i64 h, .slice a zss.length c] 26)).cell? ⟨w.heap.size, 0, none⟩ = some (.int .i64 h) := by simp
  have hlt : w.heap.size < (w.alloc (.cells #[.int .i64 h, .slice a zss.length c] 26)).heap.size := by simp
  have HR := Lib.hid (hr.step hb1)
  have HI := Lib.hid (hi.step hb1)
  have HL := Lib.hid hl
  have HB := Lib.hid hb1
  clear hr hl hi hb1
  by_cases hf : FamOk h zss
  · have HFO := Lib.hid hf
    have hh1 : 1 ≤ h := hf.1.1
    have hh7 : h ≤ 7 := hf.1.2
    clear hf
    obtain ⟨m, rfl⟩ : ∃ m : Nat, h = (m : Int) := ⟨h.toNat, by omega⟩
    have m7 : m ≤ 7 := by omega
    go_enter Tryd.func14, Tryd.ntmps14
    go_wp2_with fail
    refine (tableOf_any (m : Int) a zss c _ HR.out HL.out).mono ?_
    generalize w.alloc (.cells #[.int .i64 (m : Int), .slice a zss.length c] 26) = w1 at *
    rintro e w2 ⟨hy, -, hb⟩
    obtain ⟨T, rfl, hT, htab⟩ := hy HFO.out
    rw [Int.toNat_natCast] at htab
    have HTA := Lib.hid htab
    have HI2 := Lib.hid (HI.out.step hb)
    have HB2 := Lib.hid (chain HB.out hb)
    have p0 := (hb.cell (p := ⟨w.heap.size, 0, none⟩) hlt).trans c0
    clear htab hy hb c0
    by_cases hg : IsGrp (m : Int) zs
    · have hgt := Lib.hid (show setVal (m : Int) zs = .tuple #[.int .u64 ((bitsOf zs : Nat) : Int), .bool true] by rw [setVal, tell_true hg]; rfl)
      obtain ⟨v1, v2⟩ := may_in HFO.out hg
      have V1 := Lib.hid v1
      have V2 := Lib.hid v2
      have hx := bitsOf_lt hg (by omega : (m : Int) ≤ 7)
      have HQ := Lib.hid (tabOf_at (zss := zss) m7 (bitsOf_lt2 hg))
      clear hg v1 v2
      go_wp2_with fail
      refine (setOf_any b zs d (m : Int) w2 HI2.out (by omega) (by omega)).mono ?_
      rintro e w3 ⟨rfl, rfl⟩
      rw [hgt.out]
      go_wp2_with fail
      refine (opens_any T m (bitsOf zs) (tabOf (m : Int) zss) w2 hx HTA.out).mono ?_
      rintro e w3 ⟨rfl, rfl⟩
      rw [HQ.out]
      go_wp2_with fail
      go_ret2
      exact ⟨by rw [V1.out, V2.out]; rfl, HB2.out⟩
    · have hgt := Lib.hid (show setVal (m : Int) zs = .tuple #[.int .u64 0, .bool false] by rw [setVal, tell_false hg]; rfl)
      obtain ⟨v1, v2⟩ := may_out HFO.out hg
      have V1 := Lib.hid v1
      have V2 := Lib.hid v2
      clear hg v1 v2
      go_wp2_with fail
      refine (setOf_any b zs d (m : Int) w2 HI2.out (by omega) (by omega)).mono ?_
      rintro e w3 ⟨rfl, rfl⟩
      rw [hgt.out]
      go_wp2_with fail
      go_ret2
      exact ⟨by rw [V1.out, V2.out]; rfl, HB2.out⟩
  · have HFO := Lib.hid hf
    obtain ⟨v1, v2⟩ := may_bad (zs := zs) hf
    have V1 := Lib.hid v1
    have V2 := Lib.hid v2
    clear hf v1 v2
    go_enter Tryd.func14, Tryd.ntmps14
    go_wp2_with fail
    refine (tableOf_any h a zss c _ HR.out HL.out).mono ?_
    generalize w.alloc (.cells #[.int .i64 h, .slice a zss.length c] 26) = w1 at *
    rintro e w2 ⟨-, hn, hb⟩
    obtain rfl := hn HFO.out
    have HB2 := Lib.hid (chain HB.out hb)
    clear hn hb
    go_wp2_with fail
    go_ret2
    exact ⟨by rw [V1.out, V2.out]; rfl, HB2.out⟩
end Go.Proofs.YteifllengcacbaaDoor

/- The program's isOrder and renamed; orders as lists. -/
import Derived.Test.YteifllengcacbaaDoorRen
import Derived.Test.YteifllengcacbaaDoorTof
import Derived.Test.YteifllengcacbaaDoorFw
namespace Go.Proofs.YteifllengcacbaaDoor
open Go.RowKit Go.Deep Go.Shelf
set_option linter.unusedVariables false

def oOf (zs : List Int) (i : Nat) : Nat := (nth zs i).toNat
/-- The first k are in range, and each is there once. -/
def OrdTo (h : Int) (zs : List Int) (k : Nat) : Prop := (∀ i, i < k → 0 ≤ nth zs i ∧ nth zs i < h) ∧ ∀ i j, i < j → j < k → nth zs i ≠ nth zs j
def OrdOk (h : Int) (zs : List Int) : Prop := (zs.length : Int) = h ∧ OrdTo h zs zs.length
theorem OrdTo.less {h : Int} {zs : List Int} {k n : Nat} (hk : OrdTo h zs n) (hn : k ≤ n) : OrdTo h zs k := ⟨fun i hi => hk.1 i (by omega), fun i j h1 h2 => hk.2 i j h1 (by omega)⟩
theorem OrdOk.ord {m : Nat} {zs : List Int} (h : OrdOk (m : Int) zs) : Ord (oOf zs) m := by
  have hl : zs.length = m := by have := h.1; omega
  refine ⟨fun i hi => by have := h.2.1 i (by omega); unfold oOf; omega, fun i j hi hj e => ?_⟩
  have a := h.2.1 i (by omega)
  have b := h.2.1 j (by omega)
  have e' : nth zs i = nth zs j := by unfold oOf at e; omega
  rcases Nat.lt_trichotomy i j with h1 | h1 | h1
  · exact absurd e' (h.2.2 i j h1 (by omega))
  · exact h1
  · exact absurd e'.symm (h.2.2 j i h1 (by omega))
theorem bitsTo_bit (zs : List Int) (j : Nat) : ∀ k, (bitsTo zs k).testBit j = true ↔ ∃ i, i < k ∧ (nth zs i).toNat = j
  | 0 => by simp [bitsTo]
  | k + 1 => by
    show (bitsTo zs k ||| 2 ^ (nth zs k).toNat).testBit j = true ↔ _
    rw [Nat.testBit_or, Bool.or_eq_true, bitsTo_bit zs j k, Nat.testBit_two_pow, decide_eq_true_eq]
    constructor
    · rintro (⟨i, h1, h2⟩ | h1)
      · exact ⟨i, by omega, h2⟩
      · exact ⟨k, by omega, h1⟩
    · rintro ⟨i, h1, h2⟩
      by_cases e : i = k
      · subst e; exact .inr h2
      · exact .inl ⟨i, by omega, h2⟩
theorem bitsTo_128 {h : Int} {zs : List Int} {k : Nat} (h7 : h ≤ 7) (hk : OrdTo h zs k) : bitsTo zs k < 128 := by
  show bitsTo zs k < 2 ^ 7
  refine Nat.lt_pow_two_of_testBit _ fun j hj => ?_
  cases hb : (bitsTo zs k).testBit j with
  | false => rfl
  | true =>
    obtain ⟨i, h1, rfl⟩ := (bitsTo_bit zs j k).1 hb
    have := hk.1 i h1
    omega
theorem ord_step {h : Int} {zs : List Int} {k : Nat} (hk : OrdTo h zs k) (h0 : 0 ≤ nth zs k) (h1 : nth zs k < h) (hb : (bitsTo zs k).testBit (nth zs k).toNat = false) : OrdTo h zs (k + 1) := by
  refine ⟨fun i hi => ?_, fun i j hi hj => ?_⟩
  · by_cases e : i = k
    · subst e; exact ⟨h0, h1⟩
    · exact hk.1 i (by omega)
  · by_cases e : j = k
    · subst e
      intro e2
      rw [(bitsTo_bit zs _ j).2 ⟨i, hi, by rw [e2]⟩] at hb
      cases hb
    · exact hk.2 i j hi (by omega)
theorem ord_twice {h : Int} {zs : List Int} {k : Nat} (hk : OrdTo h zs k) (h0 : 0 ≤ nth zs k) (hlt : k < zs.length) (hb : (bitsTo zs k).testBit (nth zs k).toNat = true) : ¬ OrdOk h zs := fun q => by
  obtain ⟨i, h1, h2⟩ := (bitsTo_bit zs _ k).1 hb
  have := hk.1 i h1
  exact q.2.2 i k h1 hlt (by omega)

set_option maxRecDepth 100000 in
set_option maxHeartbeats 1000000 in
theorem isOrder_any (h : Int) (a : Option Addr) (zs : List Int) (c : Nat) (w : World) (h1 : 1 ≤ h) (h7 : h ≤ 7) (hr : Ints w a zs) (hl : zs.length ≤ 1048576) :
    Calls Tryd.prog 63 #[.int .i64 h, .slice a zs.length c] w fun e w' => e = .returned (.bool (tell (OrdOk h zs))) ∧ w = w' := by
  by_cases hlen : (zs.length : Int) = h
  case neg =>
    have t0 : ((zs.length : Int) != h) = true := by simp [hlen]
    have HN := Lib.hid (tell_false (p := OrdOk h zs) (fun q => hlen q.1))
    clear hlen
    go_enter Tryd.func63, Tryd.ntmps63
    go_wp2
    go_ret
    exact ⟨ret_bool HN.out.symm, rfl⟩
  have t0 : ((zs.length : Int) != h) = false := by simp [hlen]
  have HL := Lib.hid hlen
  have hl7 : zs.length ≤ 7 := by omega
  clear hlen
  go_enter Tryd.func63, Tryd.ntmps63
  go_wp2_with fail
  go_loop [5, 14] (fun g i => ∃ k : Nat, i = .int .i64 k ∧ k ≤ zs.length ∧ g = .int .u64 (bitsTo zs k : Nat) ∧ OrdTo h zs k)
    (fun _ i => zs.length - (intOf i).toNat)
  case atStart => exact ⟨0, rfl, Nat.zero_le _, rfl, fun i hi => absurd hi (Nat.not_lt_zero _), fun i j _ hj => absurd hj (Nat.not_lt_zero _)⟩
  case round =>
    obtain ⟨k, rfl, hk, rfl, hord⟩ := hrel
    have HO := Lib.hid hord
    have hb128 := bitsTo_128 h7 hord
    clear hord
    by_cases hlt : k < zs.length
    · rcases hr with h | ⟨b, o, rfl, hc⟩
      · rw [h] at hlt; exact absurd hlt (Nat.not_lt_zero _)
      have hcell := hc k hlt
      have hi0 : (k : Int) < (zs.length : Int) := by omega
      clear hc
      by_cases e1 : nth zs k < 0
      · have HN := Lib.hid (tell_false (p := OrdOk h zs) (fun q => by have := q.2.1 k hlt; omega))
        generalize bitsTo zs k = g at *
        go_wp2_with fail
        go_ret
        exact ⟨ret_bool HN.out.symm, rfl⟩
      by_cases e2 : h ≤ nth zs k
      · have HN := Lib.hid (tell_false (p := OrdOk h zs) (fun q => by have := q.2.1 k hlt; omega))
        generalize bitsTo zs k = g at *
        go_wp2_with fail
        go_ret
        exact ⟨ret_bool HN.out.symm, rfl⟩
      have n0 : 0 ≤ nth zs k := by omega
      have n6 : nth zs k ≤ 6 := by omega
      cases hbit : (bitsTo zs k).testBit (nth zs k).toNat with
      | true =>
        have HB := Lib.hid hbit
        have HN := Lib.hid (tell_false (ord_twice HO.out n0 hlt hbit))
        clear hbit
        generalize bitsTo zs k = g at *
        go_wp2_with fail
        refine (has_any g (nth zs k) w hb128 n0 n6).mono ?_
        rw [HB.out]
        rintro e w' ⟨rfl, rfl⟩
        go_wp2_with fail
        go_ret
        exact ⟨ret_bool HN.out.symm, rfl⟩
      | false =>
        have HB := Lib.hid hbit
        have HS := Lib.hid (ord_step HO.out n0 (by omega) hbit)
        have HV := Lib.hid (show bitsTo zs (k + 1) = bitsTo zs k ||| 2 ^ (nth zs k).toNat from rfl)
        clear hbit
        generalize bitsTo zs k = g at *
        go_wp2_with fail
        refine (has_any g (nth zs k) w hb128 n0 n6).mono ?_
        rw [HB.out]
        rintro e w' ⟨rfl, rfl⟩
        go_wp2_with fail
        refine (with_any g (nth zs k) w hb128 n0 n6).mono ?_
        rintro e w' ⟨rfl, rfl⟩
        go_wp2_with fail
        go_round
        case rel => exact ⟨k + 1, by go_num, by omega, by rw [HV.out], HS.out⟩
        case measure => simp [intOf]; omega
    · have HE := Lib.hid (show k = zs.length by omega)
      have HN := Lib.hid (tell_true (p := OrdOk h zs) ⟨HL.out, by have := HO.out; rwa [HE.out] at this⟩)
      generalize bitsTo zs k = g at *
      go_wp2_with fail
      go_ret
      exact ⟨ret_bool HN.out.symm, rfl⟩

theorem psi_128 {zs : List Int} (hz : ∀ i, i < zs.length → 0 ≤ nth zs i ∧ nth zs i ≤ 6) (x : Nat) {k : Nat} (hk : k ≤ zs.length) : psiN (oOf zs) x k < 128 := by
  show _ < 2 ^ 7
  refine Nat.lt_pow_two_of_testBit _ fun j hj => ?_
  cases hb : (psiN (oOf zs) x k).testBit j with
  | false => rfl
  | true =>
    obtain ⟨i, h1, _, rfl⟩ := (psi_bit _ x j k).1 hb
    have := hz i (by omega)
    unfold oOf at hj
    omega

set_option maxRecDepth 100000 in
set_option maxHeartbeats 1000000 in
theorem renamed_any (x : Nat) (a : Option Addr) (zs : List Int) (c : Nat) (w : World) (hx : x < 128) (hr : Ints w a zs) (hl : zs.length ≤ 7) (hz : ∀ i, i < zs.length → 0 ≤ nth zs i ∧ nth zs i ≤ 6) :
    Calls Tryd.prog 65 #[.int .u64 x, .slice a zs.length c] w fun e w' => e = .returned (.int .u64 (psiN (oOf zs) x zs.length : Nat)) ∧ w = w' := by
  have HZ := Lib.hid hz
  clear hz
  go_enter Tryd.func65, Tryd.ntmps65
  go_wp2_with fail
  go_loop [5, 10] (fun g i => ∃ k : Nat, i = .int .i64 k ∧ k ≤ zs.length ∧ g = .int .u64 (psiN (oOf zs) x k : Nat))
    (fun _ i => zs.length - (intOf i).toNat)
  case atStart => exact ⟨0, rfl, Nat.zero_le _, rfl⟩
  case round =>
    obtain ⟨k, rfl, hk, rfl⟩ := hrel
    have hb128 := psi_128 HZ.out x hk
    by_cases hlt : k < zs.length
    · rcases hr with h | ⟨b, o, rfl, hc⟩
      · rw [h] at hlt; exact absurd hlt (Nat.not_lt_zero _)
      have hcell := hc k hlt
      have hi0 : (k : Int) < (zs.length : Int) := by omega
      obtain ⟨n0, n6⟩ := HZ.out k hlt
      clear hc
      cases hbit : x.testBit k with
      | true =>
        have HB := Lib.hid hbit
        have HV := Lib.hid (show psiN (oOf zs) x (k + 1) = psiN (oOf zs) x k ||| 2 ^ (nth zs k).toNat by rw [psiN, if_pos hbit]; rfl)
        clear hbit
        generalize psiN (oOf zs) x k = g at *
        go_wp2_with fail
        refine (has_any x (k : Int) w hx (by omega) (by omega)).mono ?_
        rw [Int.toNat_natCast, HB.out]
        rintro e w' ⟨rfl, rfl⟩
        go_wp2_with fail
        refine (with_any g (nth zs k) w hb128 n0 n6).mono ?_
        rintro e w' ⟨rfl, rfl⟩
        go_wp2_with fail
        go_round
        case rel => exact ⟨k + 1, by go_num, by omega, by rw [HV.out]⟩
        case measure => simp [intOf]; omega
      | false =>
        have HB := Lib.hid hbit
        have HV := Lib.hid (show psiN (oOf zs) x (k + 1) = psiN (oOf zs) x k by rw [psiN, if_neg (by rw [hbit]; simp)])
        clear hbit
        generalize psiN (oOf zs) x k = g at *
        go_wp2_with fail
        refine (has_any x (k : Int) w hx (by omega) (by omega)).mono ?_
        rw [Int.toNat_natCast, HB.out]
        rintro e w' ⟨rfl, rfl⟩
        go_wp2_with fail
        go_round
        case rel => exact ⟨k + 1, by go_num, by omega, by rw [HV.out]⟩
        case measure => simp [intOf]; omega
    · have HE := Lib.hid (show k = zs.length by omega)
      go_wp2_with fail
      go_ret
      exact ⟨by rw [HE.out]; rfl, rfl⟩

set_option maxRecDepth 100000 in
theorem Ren_chooses (B C T m c : Nat) (a : Option Addr) (zs : List Int) (q : Nat → Bool) (w : World) (hB : w.cell? ⟨B, 0, none⟩ = some (.pointer (some ⟨T, 0, none⟩))) (hC : w.cell? ⟨C, 0, none⟩ = some (.slice a zs.length c)) (hr : Ints w a zs) (ht : TableAt w T m q)
    (hl : zs.length ≤ 7) (hz : ∀ i, i < zs.length → 0 ≤ nth zs i ∧ nth zs i ≤ 6) :
    Chooses w 64 #[] #[.pointer (some ⟨B, 0, none⟩), .pointer (some ⟨C, 0, none⟩)] (fun x => q (psiN (oOf zs) x zs.length)) := by
  refine ⟨enters_of Tryd.func64 (by kernel_rfl) rfl, fun x W hb => ?_⟩
  have hBW := cell_step hb hB
  have hCW := cell_step hb hC
  have HT := Lib.hid (ht.below hb (World.block_lt_of_cell? _ _ ht.h0))
  have HR := Lib.hid (hr.step hb)
  have HZ := Lib.hid hz
  have hx := x.isLt
  have h128 := psi_128 hz x.val (Nat.le_refl _)
  clear hb hB hC ht hr hz
  show Calls Tryd.prog 64 #[.int .u64 (x.val : Int), .pointer (some ⟨B, 0, none⟩), .pointer (some ⟨C, 0, none⟩)] W _
  generalize x.val = y at *
  go_enter Tryd.func64, Tryd.ntmps64
  go_wp2
  go_quiet (first | (go_at_call 65; exact Calls.quiet_of_same (swapped (renamed_any y a zs c _ hx (HR.out.quiet ⟨_, rfl⟩) hl HZ.out))) | (go_at_call 47; exact Calls.quiet_of_same (swapped (opens_any T m (psiN (oOf zs) y zs.length) q _ h128 (HT.out.step (quiet_below ⟨_, rfl⟩))))))
  go_wp2
  go_ret
  exact ⟨rfl, quiet_below ⟨_, rfl⟩⟩
end Go.Proofs.YteifllengcacbaaDoor

/- The contracts of NeededHolders and VetoHolders, the model's and the program's. -/
import Derived.Test.YteifllengcacbaaDoorOwn
namespace Go.Proofs.YteifllengcacbaaDoor
open Go.RowKit Go.Deep
set_option linter.unusedVariables false

def orTo (zss : List (List Int)) : Nat → Nat
  | 0 => 0
  | k + 1 => orTo zss k ||| bitsOf (nthL zss k)
def andTo (h : Int) (zss : List (List Int)) : Nat → Nat
  | 0 => 2 ^ h.toNat - 1
  | k + 1 => andTo h zss k &&& bitsOf (nthL zss k)
theorem orTo_lt {h : Int} {zss : List (List Int)} (hg : AllGrp h zss) (hh : h ≤ 7) : ∀ k, k ≤ zss.length → orTo zss k < 128
  | 0, _ => by simp [orTo]
  | k + 1, hk => Nat.or_lt_two_pow (n := 7) (orTo_lt hg hh k (by omega)) (bitsOf_lt (hg k (by omega)).1 hh)
theorem andTo_lt {h : Int} {zss : List (List Int)} (h0 : 1 ≤ h) (hh : h ≤ 7) : ∀ k, andTo h zss k < 128
  | 0 => by
    have : (2 : Nat) ^ h.toNat ≤ 2 ^ 7 := Nat.pow_le_pow_right (by omega) (by omega)
    show 2 ^ h.toNat - 1 < 128
    omega
  | k + 1 => Nat.lt_of_le_of_lt Nat.and_le_left (andTo_lt h0 hh k)

noncomputable def needOf (h : Int) (zss : List (List Int)) : List Int := if tell (FamOk h zss) = true then listOf (orTo zss zss.length) else []
noncomputable def vetoOf (h : Int) (zss : List (List Int)) : List Int := if tell (FamOk h zss) = true then listOf (andTo h zss zss.length) else []
noncomputable def okCode (h : Int) (zss : List (List Int)) : Int := if tell (FamOk h zss) = true then 0 else 1

theorem needOf_len (h : Int) (zss : List (List Int)) : (needOf h zss).length ≤ 1048576 := by
  unfold needOf
  split
  · exact Nat.le_trans (listTo_len _ 7) (by omega)
  · simp
theorem vetoOf_len (h : Int) (zss : List (List Int)) : (vetoOf h zss).length ≤ 1048576 := by
  unfold vetoOf
  split
  · exact Nat.le_trans (listTo_len _ 7) (by omega)
  · simp

set_option maxRecDepth 100000 in
set_option maxHeartbeats 800000 in
theorem implNeed_any (h : Int) (a : Option Addr) (zss : List (List Int)) (c : Nat) (w : World) (hr : Rows2 w a zss) (hs : Small2 zss) :
    Calls Tryd.prog 35 #[.agg #[.int .i64 h, .slice a zss.length c]] w (GivesIntsCode w (needOf h zss) (okCode h zss)) := by
  have hb1 := (Below.refl w.heap.size w).alloc (Nat.le_refl _) (.cells #[.int .i64 h, .slice a zss.length c] 26)
  have hR1 := Lib.hid (hr.step hb1)
  have hl1 : zss.length ≤ 1048576 := hs.1
  have HS := Lib.hid hs
  have c0 : (w.alloc (.cells #[.int .i64 h, .slice a zss.length c] 26)).cell? ⟨w.heap.size, 0, none⟩ = some (.int .i64 h) := by simp
  clear hr hs
  cases hf : tell (FamOk h zss) with
  | false =>
    have HF := Lib.hid hf
    clear hf c0
    go_enter Tryd.func35, Tryd.ntmps35
    go_wp2_with fail
    refine (leastSets_any h a zss c _ hR1.out HS.out).mono ?_
    generalize w.alloc (.cells #[.int .i64 h, .slice a zss.length c] 26) = w1 at *
    rintro e w2 ⟨⟨v, rfl, _⟩, hb⟩
    rw [HF.out]
    have hb2 := chain hb1 hb
    clear hb hb1
    go_wp2_with fail
    go_ret2
    exact ⟨⟨_, by rw [okCode, HF.out]; rfl, by rw [needOf, HF.out]; exact OwnI.nil _ _⟩, hb2⟩
  | true =>
    have hfam := of_tell hf
    have HF := Lib.hid hf
    have HFam := Lib.hid hfam
    have hh7 : h ≤ 7 := hfam.1.2
    have hh1 : 1 ≤ h := hfam.1.1
    clear hf hfam
    go_enter Tryd.func35, Tryd.ntmps35
    go_wp2_with fail
    refine (leastSets_any h a zss c _ hR1.out HS.out).mono ?_
    generalize w.alloc (.cells #[.int .i64 h, .slice a zss.length c] 26) = w1 at *
    rintro e w2 ⟨⟨v, rfl, hv⟩, hb⟩
    rw [HF.out]
    have hv' := hv HFam.out
    obtain ⟨a2, c2, rfl, hsets, hlen⟩ := Sets.of_owns (l := bitsUpTo zss zss.length) (by rw [bitsUpTo_len]; exact hv')
    have HSE := Lib.hid hsets
    have HB2 := Lib.hid (chain hb1 hb)
    replace c0 := cell_step hb c0
    have HLN := Lib.hid (bitsUpTo_len zss zss.length)
    clear hb hb1 hv hv' hsets
    generalize hL : bitsUpTo zss zss.length = L at *
    have HL := Lib.hid hL
    clear hL
    go_wp2_with fail
    go_loop [6, 18] (fun g i => ∃ k : Nat, k ≤ L.length ∧ i = .int .i64 k ∧ g = .int .u64 (orTo zss k : Nat))
      (fun _ i => L.length - (intOf i).toNat)
    case atStart => exact ⟨0, Nat.zero_le _, rfl, rfl⟩
    case round =>
      obtain ⟨k, hk, rfl, rfl⟩ := hrel
      by_cases hlt : k < L.length
      · rcases HSE.out with h0 | ⟨b, o, rfl, hc⟩
        · rw [h0] at hlt; exact absurd hlt (Nat.not_lt_zero _)
        have g1 := hc k hlt
        have hi0 : (k : Int) < (L.length : Int) := by omega
        have hkz := Lib.hid (show k < zss.length by rw [HLN.out] at hlt; exact hlt)
        have HG := Lib.hid (HFam.out.2.1 k hkz.out).1
        have ho := orTo_lt HFam.out.2.1 hh7 k (by have := hkz.out; omega)
        have hbt := bitsOf_lt HG.out hh7
        have hnk := Lib.hid (show nthN L k = bitsOf (nthL zss k) by rw [← HL.out]; exact bitsUpTo_nth _ hkz.out)
        clear hc
        go_wp2_with fail
        go_round
        case rel => exact ⟨k + 1, by omega, by go_num, by rw [hnk.out, u64_or_nat _ _ (by omega) (by omega)]; rfl⟩
        case measure => simp [intOf]; omega
      · have HE := Lib.hid (show k = zss.length by have := HLN.out; omega)
        go_wp2_with fail
        refine (list_any (orTo zss k) w2 (orTo_lt HFam.out.2.1 hh7 k (by have := HLN.out; omega))).mono ?_
        rintro e w3 ⟨⟨v, rfl, hv⟩, hb3⟩
        have HV := Lib.hid hv
        have HB3 := Lib.hid hb3
        clear hv hb3
        go_wp2_with fail
        go_ret2
        have e1 : okCode h zss = 0 := by rw [okCode, HF.out]; rfl
        have e2 : needOf h zss = listOf (orTo zss k) := by rw [needOf, HF.out, HE.out]; rfl
        rw [e1, e2]
        exact GivesInts.code HV.out HB2.out.size (chain HB2.out HB3.out) 0
end Go.Proofs.YteifllengcacbaaDoor

/- The contracts of VetoHolders, the model's and the program's. -/
import Derived.Test.YtghkphpafgogjabNeed
namespace Go.Proofs.Ytghkphpafgogjab
open Go.RowKit Go.Deep
set_option linter.unusedVariables false

theorem mask_fact_i64 : ∀ n : Nat, n ≤ 7 → wrap64 (wrap64 ((2 : Int) ^ n) - 1) = ((2 ^ n - 1 : Nat) : Int) := by decide +kernel
theorem mask_i64 {h : Int} (h1 : 1 ≤ h) (h2 : h ≤ 7) : wrap64 (wrap64 ((2 : Int) ^ h.toNat) - 1) = ((2 ^ h.toNat - 1 : Nat) : Int) := mask_fact_i64 h.toNat (by omega)
theorem mask_fact_u64 : ∀ n : Nat, n ≤ 7 → IntKind.u64.wrap (IntKind.u64.wrap ((2 : Int) ^ n) - 1) = ((2 ^ n - 1 : Nat) : Int) := by decide +kernel
theorem allHolders_any (h : Int) (w : World) (h1 : 0 ≤ h) (h2 : h ≤ 7) : Calls Try.prog 40 #[.int .i64 h] w fun e w' => e = .returned (.int .u64 ((2 ^ h.toNat - 1 : Nat) : Int)) ∧ w = w' := by
  have hm := Lib.hid (mask_fact_u64 h.toNat (by omega))
  go_enter Try.func40, Try.ntmps40
  go_wp2
  go_ret
  refine ⟨?_, rfl⟩
  rw [← hm.out]
  rfl

set_option maxHeartbeats 800000 in
theorem specVeto_any (h : Int) (a : Option Addr) (zss : List (List Int)) (c : Nat) (w : World) (hr : Rows2 w a zss) (hl : Lens zss) :
    Calls Try.prog 22 #[.agg #[.int .i64 h, .slice a zss.length c]] w (GivesIntsCode w (vetoOf h zss) (okCode h zss)) := by
  have hb1 := (Below.refl w.heap.size w).alloc (Nat.le_refl _) (.cells #[.int .i64 h, .slice a zss.length c] 24)
  have hbox : FamBox (w.alloc (.cells #[.int .i64 h, .slice a zss.length c] 24)) w.heap.size h a zss.length c := ⟨by simp, by simp⟩
  have hR1 := Lib.hid (hr.step hb1)
  have hbox' := Lib.hid hbox
  have hl1 : zss.length ≤ 9223372036854775807 := hl.1
  have HL := Lib.hid hl
  have hs1 : w.heap.size < (w.alloc (.cells #[.int .i64 h, .slice a zss.length c] 24)).heap.size := by simp
  clear hr hl hbox
  cases hf : tell (FamOk h zss) with
  | false =>
    have HF := Lib.hid hf
    clear hf
    go_enter Try.func22, Try.ntmps22
    go_wp2_with fail
    refine (l01Ok_any w.heap.size h a zss c _ hbox'.out hR1.out HL.out).mono ?_
    generalize w.alloc (.cells #[.int .i64 h, .slice a zss.length c] 24) = w1 at *
    rintro e w' ⟨rfl, hq⟩
    rw [HF.out]
    have hb2 := chain hb1 (quiet_below hq)
    have hsz := hb2.size
    clear hq hb1 hbox'
    go_wp2_with fail
    go_ret2
    refine ⟨⟨_, by rw [okCode, HF.out]; rfl, ?_⟩, hb2.alloc hsz _⟩
    rw [vetoOf, HF.out]
    exact World.ownsRow_made w' #[] 0 hsz (by unfold maxLen; omega) rfl
  | true =>
    have hfam := of_tell hf
    have HF := Lib.hid hf
    have HFam := Lib.hid hfam
    have hh7 : h ≤ 7 := hfam.1.2
    have hh1 : 1 ≤ h := hfam.1.1
    have hm0 := Lib.hid (mask_i64 hh1 hh7)
    clear hf hfam
    go_enter Try.func22, Try.ntmps22
    go_wp2_with fail
    refine (l01Ok_any w.heap.size h a zss c _ hbox'.out hR1.out HL.out).mono ?_
    generalize w.alloc (.cells #[.int .i64 h, .slice a zss.length c] 24) = w1 at *
    rintro e w2 ⟨rfl, hq⟩
    rw [HF.out]
    have HB2 := Lib.hid (chain hb1 (quiet_below hq))
    have HR2 := Lib.hid (hR1.out.quiet hq)
    have c0 := (hbox'.out.quiet hq).1
    have c1 := (hbox'.out.quiet hq).2
    clear hq hb1 hbox' hs1
    go_wp2_with fail
    go_loop [4, 5] (fun g i => ∃ k : Nat, k ≤ zss.length ∧ i = .int .i64 k ∧ g = .int .i64 (andTo h zss k : Nat))
      (fun _ i => zss.length - (intOf i).toNat)
    case atStart => exact ⟨0, Nat.zero_le _, rfl, by rw [hm0.out]; rfl⟩
    case round =>
      obtain ⟨k, hk, rfl, rfl⟩ := hrel
      by_cases hlt : k < zss.length
      · rcases HR2.out with h0 | ⟨b, o, rfl, hc⟩
        · rw [h0] at hlt; exact absurd hlt (Nat.not_lt_zero _)
        obtain ⟨ai, ci, g1, i1⟩ := hc k hlt
        have hi0 : (k : Int) < (zss.length : Int) := by omega
        have HG := Lib.hid (HFam.out.2.1 k hlt).1
        have ho := andTo_lt (zss := zss) hh1 hh7 k
        have hbt := bitsOf_lt HG.out hh7
        clear hc
        go_wp2_with fail
        refine (l01Bits_any ai (nthL zss k) ci h w2 i1 HG.out hh7 (HL.out.2 k hlt)).mono ?_
        rintro e w' ⟨rfl, rfl⟩
        go_wp2_with fail
        go_round
        case rel => exact ⟨k + 1, by omega, by go_num, by rw [i64_and_nat _ _ (by omega) (by omega)]; rfl⟩
        case measure => simp [intOf]; omega
      · have HE := Lib.hid (show k = zss.length by omega)
        go_wp2_with fail
        refine (l01Of_any (andTo h zss k) w2 (andTo_lt hh1 hh7 k)).mono ?_
        rintro e w3 ⟨⟨v, rfl, hv⟩, hb3⟩
        have HV := Lib.hid hv
        have HB3 := Lib.hid hb3
        clear hv hb3
        go_wp2_with fail
        go_ret2
        have e1 : okCode h zss = 0 := by rw [okCode, HF.out]; rfl
        have e2 : vetoOf h zss = listOf (andTo h zss k) := by rw [vetoOf, HF.out, HE.out]; rfl
        rw [e1, e2]
        exact GivesInts.code HV.out HB2.out.size (chain HB2.out HB3.out) 0

set_option maxHeartbeats 800000 in
theorem implVeto_any (h : Int) (a : Option Addr) (zss : List (List Int)) (c : Nat) (w : World) (hr : Rows2 w a zss) (hs : Small2 zss) :
    Calls Try.prog 23 #[.agg #[.int .i64 h, .slice a zss.length c]] w (GivesIntsCode w (vetoOf h zss) (okCode h zss)) := by
  have hb1 := (Below.refl w.heap.size w).alloc (Nat.le_refl _) (.cells #[.int .i64 h, .slice a zss.length c] 24)
  have hR1 := Lib.hid (hr.step hb1)
  have hl1 : zss.length ≤ 1048576 := hs.1
  have HS := Lib.hid hs
  have c0 : (w.alloc (.cells #[.int .i64 h, .slice a zss.length c] 24)).cell? ⟨w.heap.size, 0, none⟩ = some (.int .i64 h) := by simp
  clear hr hs
  cases hf : tell (FamOk h zss) with
  | false =>
    have HF := Lib.hid hf
    clear hf c0
    go_enter Try.func23, Try.ntmps23
    go_wp2_with fail
    refine (leastSets_any h a zss c _ hR1.out HS.out).mono ?_
    generalize w.alloc (.cells #[.int .i64 h, .slice a zss.length c] 24) = w1 at *
    rintro e w2 ⟨⟨v, rfl, _⟩, hb⟩
    rw [HF.out]
    have hb2 := chain hb1 hb
    clear hb hb1
    go_wp2_with fail
    go_ret2
    exact ⟨⟨_, by rw [okCode, HF.out]; rfl, by rw [vetoOf, HF.out]; exact OwnI.nil _ _⟩, hb2⟩
  | true =>
    have hfam := of_tell hf
    have HF := Lib.hid hf
    have HFam := Lib.hid hfam
    have hh7 : h ≤ 7 := hfam.1.2
    have hh1 : 1 ≤ h := hfam.1.1
    clear hf hfam
    go_enter Try.func23, Try.ntmps23
    go_wp2_with fail
    refine (leastSets_any h a zss c _ hR1.out HS.out).mono ?_
    generalize w.alloc (.cells #[.int .i64 h, .slice a zss.length c] 24) = w1 at *
    rintro e w2 ⟨⟨v, rfl, hv⟩, hb⟩
    rw [HF.out]
    have hv' := hv HFam.out
    obtain ⟨a2, c2, rfl, hsets, hlen⟩ := Sets.of_owns (l := bitsUpTo zss zss.length) (by rw [bitsUpTo_len]; exact hv')
    have HSE := Lib.hid hsets
    have HB2 := Lib.hid (chain hb1 hb)
    replace c0 := cell_step hb c0
    have HLN := Lib.hid (bitsUpTo_len zss zss.length)
    clear hb hb1 hv hv' hsets
    generalize hL : bitsUpTo zss zss.length = L at *
    have HL := Lib.hid hL
    clear hL
    go_wp2_with fail
    refine (allHolders_any h w2 (by omega) hh7).mono ?_
    rintro e w' ⟨rfl, rfl⟩
    go_wp2_with fail
    go_loop [6, 21] (fun g i => ∃ k : Nat, k ≤ L.length ∧ i = .int .i64 k ∧ g = .int .u64 (andTo h zss k : Nat))
      (fun _ i => L.length - (intOf i).toNat)
    case atStart => exact ⟨0, Nat.zero_le _, rfl, rfl⟩
    case round =>
      obtain ⟨k, hk, rfl, rfl⟩ := hrel
      by_cases hlt : k < L.length
      · rcases HSE.out with h0 | ⟨b, o, rfl, hc⟩
        · rw [h0] at hlt; exact absurd hlt (Nat.not_lt_zero _)
        have g1 := hc k hlt
        have hi0 : (k : Int) < (L.length : Int) := by omega
        have hkz := Lib.hid (show k < zss.length by rw [HLN.out] at hlt; exact hlt)
        have HG := Lib.hid (HFam.out.2.1 k hkz.out).1
        have ho := andTo_lt (zss := zss) hh1 hh7 k
        have hbt := bitsOf_lt HG.out hh7
        have hnk := Lib.hid (show nthN L k = bitsOf (nthL zss k) by rw [← HL.out]; exact bitsUpTo_nth _ hkz.out)
        clear hc
        go_wp2_with fail
        go_round
        case rel => exact ⟨k + 1, by omega, by go_num, by rw [hnk.out, u64_and_nat _ _ (by omega) (by omega)]; rfl⟩
        case measure => simp [intOf]; omega
      · have HE := Lib.hid (show k = zss.length by have := HLN.out; omega)
        go_wp2_with fail
        refine (list_any (andTo h zss k) w2 (andTo_lt hh1 hh7 k)).mono ?_
        rintro e w3 ⟨⟨v, rfl, hv⟩, hb3⟩
        have HV := Lib.hid hv
        have HB3 := Lib.hid hb3
        clear hv hb3
        go_wp2_with fail
        go_ret2
        have e1 : okCode h zss = 0 := by rw [okCode, HF.out]; rfl
        have e2 : vetoOf h zss = listOf (andTo h zss k) := by rw [vetoOf, HF.out, HE.out]; rfl
        rw [e1, e2]
        exact GivesInts.code HV.out HB2.out.size (chain HB2.out HB3.out) 0
end Go.Proofs.Ytghkphpafgogjab

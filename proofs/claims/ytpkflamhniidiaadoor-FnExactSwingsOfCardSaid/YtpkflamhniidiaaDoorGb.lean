/- GreatestBlocked, the model's and the program's. -/
import Derived.Test.YtpkflamhniidiaaDoorTbl
import Derived.Test.YtpkflamhniidiaaDoorTof
import Derived.Test.YtpkflamhniidiaaDoorNeed
import Derived.Test.YtpkflamhniidiaaDoorLawR
namespace Go.Proofs.YtpkflamhniidiaaDoor
open Go.RowKit Go.Deep Go.Shelf
set_option linter.unusedVariables false

def addOne (x i : Nat) : Nat := x ||| 2 ^ i
theorem addOne_lt {x i m : Nat} (hx : x < 2 ^ m) (hi : i < m) : addOne x i < 2 ^ m := Nat.or_lt_two_pow hx (Nat.pow_lt_pow_right (by omega) hi)
theorem addOne_small {x i : Nat} (hx : x < 128) (hi : i ≤ 6) : addOne x i < 128 := Nat.or_lt_two_pow (n := 7) hx (pow_small hi)
/-- Nobody of so many is missing without whom it might open, and it does not open. -/
def mostB (h : Nat) (q : Nat → Bool) (x : Nat) : Bool := ((List.range h).all fun i => x.testBit i || q (addOne x i)) && !q x
def partM (p : Nat → Bool) (x j : Nat) : Bool := !p x && (List.range j).all fun i => x.testBit i || p (addOne x i)
theorem partM_zero (p : Nat → Bool) (x : Nat) : partM p x 0 = !p x := by simp [partM]
theorem partM_succ (p : Nat → Bool) (x j : Nat) : partM p x (j + 1) = (partM p x j && (x.testBit j || p (addOne x j))) := by
  simp only [partM, List.range_succ, List.all_append, List.all_cons, List.all_nil, Bool.and_true, Bool.and_assoc]
theorem partM_end (p : Nat → Bool) (x h : Nat) : partM p x h = mostB h p x := by unfold partM mostB; rw [Bool.and_comm]
theorem partM_more {p : Nat → Bool} {x j : Nat} (h : partM p x j = false) : ∀ n, partM p x (j + n) = false
  | 0 => h
  | n + 1 => by rw [← Nat.add_assoc, partM_succ, partM_more h n]; rfl
theorem partM_most {p : Nat → Bool} {x j h : Nat} (hj : j ≤ h) (hp : partM p x j = false) : mostB h p x = false := by
  rw [← partM_end]
  have := partM_more hp (h - j)
  rwa [Nat.add_sub_cancel' hj] at this
theorem of0_fact : ∀ x : Nat, x < 128 → ∀ n : Nat, n < 7 → (bits BinOp.and IntKind.i64 ((x : Int) / 2 ^ n) 1 == 0) = !x.testBit n := by decide +kernel
theorem mostB_congr {m : Nat} {p q : Nat → Bool} {x : Nat} (hx : x < 2 ^ m) (e : ∀ y, y < 2 ^ m → p y = q y) : mostB m p x = mostB m q x := by
  unfold mostB
  rw [e x hx]
  congr 1
  rw [Bool.eq_iff_iff, List.all_eq_true, List.all_eq_true]
  exact ⟨fun k i hi => by rw [← e _ (addOne_lt hx (List.mem_range.1 hi))]; exact k i hi, fun k i hi => by rw [e _ (addOne_lt hx (List.mem_range.1 hi))]; exact k i hi⟩
noncomputable def gbOf (h : Int) (zss : List (List Int)) : List (List Int) := if tell (FamOk h zss) = true then pickOf (mostB h.toNat (tblAt zss zss.length)) (lexAll h.toNat) else []
theorem gb_small (h : Int) (zss : List (List Int)) : Small2 (gbOf h zss) := by
  unfold gbOf
  split
  · rename_i k
    have := (of_tell k).1
    exact famOf_small (by omega) _
  · exact lens_small (by simp) (by simp)
theorem Gb_same {m : Nat} (zss : List (List Int)) (h7 : m ≤ 7) : pickOf (mostB m (tblAt zss zss.length)) (lexAll m) = pickOf (mostB m (tabOf (m : Int) zss)) (lexAll m) :=
  pickOf_congr fun y hy => mostB_congr ((mem_lex h7 y).1 hy) fun z hz => by unfold tabOf; rw [Int.toNat_natCast]; exact (seenBy_all h7 _ hz).symm

set_option maxRecDepth 100000 in
set_option maxHeartbeats 400000 in
theorem isMost_any (T h x : Nat) (q : Nat → Bool) (w : World) (hx : x < 128) (h7 : h ≤ 7) (ht : TableAt w T h q) : Calls Tryd.prog 84 #[.pointer (some ⟨T, 0, none⟩), .int .u64 x] w fun e w' => e = .returned (.bool (mostB h q x)) ∧ w = w' := by
  have h0 := ht.h0
  have HT := Lib.hid ht
  clear ht
  go_enter Tryd.func84, Tryd.ntmps84
  go_wp2_with fail
  go_loopw [10] (fun i wr => ∃ k : Nat, k ≤ h ∧ i = .int .i64 k ∧ wr = w ∧ (∀ j, j < k → (x.testBit j || q (addOne x j)) = true))
    (fun i _ => h - (intOf i).toNat)
  case atStart => exact ⟨0, by omega, rfl, rfl, fun j hj => by omega⟩
  case round =>
    obtain ⟨k, hk, rfl, rfl, hall⟩ := hrel
    have HA := Lib.hid hall
    clear hall
    by_cases hlt : k < h
    · cases hbit : x.testBit k with
      | false =>
        have HB := Lib.hid hbit
        clear hbit
        cases hq : q (addOne x k) with
        | false =>
          have HQ := Lib.hid hq
          clear hq
          go_wp2_with (first
            | (go_at_call 128; refine (has_any x k wr hx (by omega) (by omega)).mono ?_; rintro e w' ⟨rfl, rfl⟩; rw [Int.toNat_natCast, HB.out])
            | (go_at_call 97; refine (with_any x k wr hx (by omega) (by omega)).mono ?_; rintro e w' ⟨rfl, rfl⟩; rw [Int.toNat_natCast, show x ||| 2 ^ k = addOne x k from rfl])
            | (go_at_call 80; refine (opens_any T h (addOne x k) q wr (addOne_small hx (by omega)) HT.out).mono ?_; rintro e w' ⟨rfl, rfl⟩; rw [HQ.out]))
          go_ret
          refine ⟨ret_bool (Eq.symm ?_), rfl⟩
          unfold mostB
          rw [Bool.and_eq_false_iff]
          refine .inl (List.all_eq_false.2 ⟨k, by simpa using hlt, ?_⟩)
          rw [HB.out, HQ.out]; decide
        | true =>
          have HQ := Lib.hid hq
          clear hq
          go_wp2_with (first
            | (go_at_call 128; refine (has_any x k wr hx (by omega) (by omega)).mono ?_; rintro e w' ⟨rfl, rfl⟩; rw [Int.toNat_natCast, HB.out])
            | (go_at_call 97; refine (with_any x k wr hx (by omega) (by omega)).mono ?_; rintro e w' ⟨rfl, rfl⟩; rw [Int.toNat_natCast, show x ||| 2 ^ k = addOne x k from rfl])
            | (go_at_call 80; refine (opens_any T h (addOne x k) q wr (addOne_small hx (by omega)) HT.out).mono ?_; rintro e w' ⟨rfl, rfl⟩; rw [HQ.out]))
          go_roundw
          case rel =>
            refine ⟨k + 1, by omega, by go_num, by simp, fun j hj => ?_⟩
            rcases Nat.lt_succ_iff_lt_or_eq.1 hj with h1 | h1
            · exact HA.out j h1
            · subst h1; rw [HQ.out, Bool.or_true]
          case measure => simp [intOf]; omega
      | true =>
        have HB := Lib.hid hbit
        clear hbit
        go_wp2_with (first
            | (go_at_call 128; refine (has_any x k wr hx (by omega) (by omega)).mono ?_; rintro e w' ⟨rfl, rfl⟩; rw [Int.toNat_natCast, HB.out]))
        go_roundw
        case rel =>
          refine ⟨k + 1, by omega, by go_num, by simp, fun j hj => ?_⟩
          rcases Nat.lt_succ_iff_lt_or_eq.1 hj with h1 | h1
          · exact HA.out j h1
          · subst h1; rw [HB.out]; rfl
        case measure => simp [intOf]; omega
    · have e7 : k = h := by omega
      have H7 := Lib.hid e7
      clear e7
      go_wp2_with (first
            | (go_at_call 80; refine (opens_any T h x q wr hx HT.out).mono ?_; rintro e w' ⟨rfl, rfl⟩))
      go_ret
      refine ⟨ret_bool (Eq.symm ?_), rfl⟩
      unfold mostB
      rw [List.all_eq_true.2 (fun j hj => HA.out j (by have := H7.out; have := List.mem_range.1 hj; omega)), Bool.true_and]

theorem most_chooses (T h : Nat) (q : Nat → Bool) (w : World) (h7 : h ≤ 7) (ht : TableAt w T h q) : Chooses w 84 #[.pointer (some ⟨T, 0, none⟩)] #[] (mostB h q) := by
  refine ⟨enters_of Tryd.func84 (by kernel_rfl) rfl, fun x W hb => ?_⟩
  show Calls Tryd.prog 84 #[.pointer (some ⟨T, 0, none⟩), .int .u64 (x.val : Int)] W _
  have hT : TableAt W T h q := ht.below hb (World.block_lt_of_cell? _ _ ht.h0)
  refine (isMost_any T h x.val q W x.isLt h7 hT).mono ?_
  rintro e w' ⟨rfl, rfl⟩
  exact ⟨rfl, Below.refl _ _⟩

set_option maxHeartbeats 2000000 in
set_option maxRecDepth 100000 in
theorem specGb_any (h : Int) (a : Option Addr) (zss : List (List Int)) (c : Nat) (w : World) (hr : Rows2 w a zss) (hl : Small2 zss) :
    Calls Tryd.prog 36 #[.agg #[.int .i64 h, .slice a zss.length c]] w (GivesRX w (gbOf h zss) (okCode h zss)) := by
  have hb1 := (Below.refl w.heap.size w).alloc (Nat.le_refl _) (.cells #[.int .i64 h, .slice a zss.length c] 27)
  have hbox : FamBox (w.alloc (.cells #[.int .i64 h, .slice a zss.length c] 27)) w.heap.size h a zss.length c := ⟨by simp, by simp⟩
  have hR1 := Lib.hid (hr.step hb1)
  have HX := Lib.hid hbox
  have HL := Lib.hid hl.lens
  have HB := Lib.hid hb1
  clear hr hl hbox hb1
  cases hf : tell (FamOk h zss) with
  | false =>
    have HF := Lib.hid hf
    clear hf
    go_enter Tryd.func36, Tryd.ntmps36
    go_wp2_with fail
    refine (l01Ok_any w.heap.size h a zss c _ HX.out hR1.out HL.out).mono ?_
    generalize w.alloc (.cells #[.int .i64 h, .slice a zss.length c] 27) = w1 at *
    rintro e w' ⟨rfl, hq⟩
    rw [HF.out]
    have HB2 := Lib.hid (chain HB.out (quiet_below hq))
    have hsz := HB2.out.size
    clear hq
    go_wp2_with fail
    go_ret2
    rw [show okCode h zss = 1 by rw [okCode, HF.out]; rfl, show gbOf h zss = [] by rw [gbOf, HF.out]; rfl]
    exact ⟨⟨_, _, rfl, .inl rfl⟩, HB2.out.alloc hsz _⟩
  | true =>
    have HFO := Lib.hid (of_tell hf)
    have HF := Lib.hid hf
    have hh1 : 1 ≤ h := HFO.out.1.1
    have hh7 : h ≤ 7 := HFO.out.1.2
    clear hf
    obtain ⟨m, rfl⟩ : ∃ m : Nat, h = (m : Int) := ⟨h.toNat, by omega⟩
    have m1 : 1 ≤ m := by omega
    have m7 : m ≤ 7 := by omega
    obtain ⟨n, hn⟩ : ∃ n, n = 2 ^ m := ⟨_, rfl⟩
    have hn128 : n ≤ 128 := by rw [hn]; exact Nat.pow_le_pow_right (by decide) m7
    have HN := Lib.hid hn
    have HV := Lib.hid (show gbOf (m : Int) zss = pickOf (mostB m (tblAt zss zss.length)) (lexAll m) by rw [gbOf, HF.out, Int.toNat_natCast]; rfl)
    have HC0 := Lib.hid (show okCode (m : Int) zss = 0 by rw [okCode, HF.out]; rfl)
    obtain ⟨i0, hi, hz0, hz1, hz2⟩ := info_parts Tryd.infoInt64S
    clear hn
    go_enter Tryd.func36, Tryd.ntmps36
    go_wp2_with fail
    refine (l01Ok_any w.heap.size (m : Int) a zss c _ HX.out hR1.out HL.out).mono ?_
    generalize w.alloc (.cells #[.int .i64 (m : Int), .slice a zss.length c] 27) = w1 at *
    rintro e w2 ⟨rfl, hq⟩
    rw [HF.out]
    have HB2 := Lib.hid (chain HB.out (quiet_below hq))
    have HR2 := Lib.hid (hR1.out.quiet hq)
    have HX2 := Lib.hid (HX.out.quiet hq)
    clear hq
    go_wp2_with fail
    refine (l01Table_any m n w.heap.size a zss c w2 m1 m7 HN.out HX2.out HR2.out HL.out (fun i hi => (HFO.out.2.1 i hi).1)).mono ?_
    rintro e w3 ⟨rfl, hbo, hb3⟩
    have hs3 := hb3.size
    have HX3 := Lib.hid (HX2.out.below hb3 (Nat.le_refl _))
    have HB3 := Lib.hid (chain HB2.out hb3)
    have HBO := Lib.hid hbo
    clear hbo hb3
    generalize tblAt zss zss.length = p at *
    generalize w2.heap.size = tb at *
    go_wp2_with fail
    have hB0 := (Below.refl w3.heap.size w3).alloc (Nat.le_refl _) (.cells #[] 35)
    have hR0 : (w3.alloc (.cells #[] 35)).ownsRow w3.heap.size 35 1 (.slice (some ⟨w3.heap.size, 0, none⟩) 0 0) 0 [] := by
      have := World.ownsRow_made w3 #[] 0 (e := 35) (size := 1) (Nat.le_refl _) (by unfold maxLen; omega) rfl
      simpa using this
    generalize w3.alloc (.cells #[] 35) = w4 at *
    go_loopw [5, 6] (fun v i wr => ∃ (k : Nat) (g cap : Nat) (ps : List (Value × List Int)), k ≤ n ∧ i = .int .i64 k ∧ v = .slice (some ⟨g, 0, none⟩) ps.length cap ∧ ps.map Prod.snd = ((List.range k).filter (mostB m p)).map listOf ∧ wr.ownsRow w3.heap.size 35 1 (.slice (some ⟨g, 0, none⟩) ps.length cap) ps.length (ps.map Prod.fst) ∧ PairsIn wr w3.heap.size ps ∧ Below w3.heap.size w3 wr)
      (fun _ i _ => n - (intOf i).toNat)
    case atStart => exact ⟨0, _, _, [], by omega, rfl, rfl, rfl, hR0, (fun q hq => by cases hq), hB0⟩
    case round =>
      obtain ⟨k, g, cap, ps, hk, rfl, rfl, hps, hrow, hin, hbel⟩ := hrel
      clear hB0 hR0
      have hpl : ps.length ≤ k := by
        have := congrArg List.length hps
        rw [List.length_map] at this
        rw [this]; exact picked_len _ _
      have HP := Lib.hid hps
      have HR := Lib.hid hrow
      have HI := Lib.hid hin
      have HBW := Lib.hid hbel
      have hszr := hbel.size
      have q0 := (HX3.out.below hbel (Nat.le_refl _)).1
      clear hps hrow hin
      by_cases hlt : k < n
      · have hki : (k : Int) < (n : Int) := by omega
        have hk128 : k < 128 := by omega
        obtain ⟨bb, oo, he, hc⟩ := HBO.out.step hbel
        cases he
        have HCC := Lib.hid (show ∀ y, y < n → wr.cell? ⟨tb, y, none⟩ = some (.bool (p y)) from fun y hy => by simpa using hc y hy)
        have hck := HCC.out k hlt
        clear hc hbel
        obtain ⟨wo, rfl⟩ : ∃ wo : World, wo = wr := ⟨_, rfl⟩
        go_wp2_with fail
        clear hck
        go_loopw [7, 8] (fun l i wr2 => ∃ j : Nat, j ≤ m ∧ i = .int .i64 j ∧ l = .bool (partM p k j) ∧ wr2 = wo)
          (fun _ i _ => m - (intOf i).toNat)
        case atStart => exact ⟨0, by omega, rfl, by rw [partM_zero], rfl⟩
        case round =>
          obtain ⟨j, hj, rfl, rfl, rfl⟩ := hrel
          by_cases hjh : j < m
          · have hji : (j : Int) < (m : Int) := by omega
            have hd : decide (j < m) = true := by simpa using hjh
            cases hpb : partM p k j with
            | true =>
              have HPB := Lib.hid hpb
              clear hpb
              have hof := of0_fact k (by omega) j (by omega)
              have hS := Lib.hid (partM_succ p k j)
              cases hbit : k.testBit j with
              | false =>
                have HBIT := Lib.hid hbit
                rw [hbit] at hof
                simp only [Bool.not_false] at hof
                clear hbit
                have hor := bits_step (g := k) (n := j) (by omega) (by omega)
                have hal : addOne k j < n := by rw [HN.out]; exact addOne_lt (by rw [← HN.out]; exact hlt) hjh
                have hcd := HCC.out _ hal
                have hAO : k ||| 2 ^ j = addOne k j := rfl
                rw [hAO] at hor
                clear hAO
                generalize addOne k j = y at *
                have hyi : (y : Int) < (n : Int) := by omega
                cases hpy : p y with
                | true =>
                  rw [hpy] at hcd
                  have HPY := Lib.hid hpy
                  clear hpy
                  go_wp2_with fail
                  go_roundw
                  case rel => exact ⟨j + 1, by omega, by go_num, by rw [hS.out, HPB.out, HBIT.out, HPY.out]; rfl, by simp⟩
                  case measure => simp [intOf]; omega
                | false =>
                  rw [hpy] at hcd
                  have HPY := Lib.hid hpy
                  clear hpy
                  go_wp2_with fail
                  go_roundw
                  case rel => exact ⟨j + 1, by omega, by go_num, by rw [hS.out, HPB.out, HBIT.out, HPY.out]; rfl, by simp⟩
                  case measure => simp [intOf]; omega
              | true =>
                have HBIT := Lib.hid hbit
                rw [hbit] at hof
                simp only [Bool.not_true] at hof
                clear hbit
                go_wp2_with fail
                go_roundw
                case rel => exact ⟨j + 1, by omega, by go_num, by rw [hS.out, HPB.out, HBIT.out]; rfl, by simp⟩
                case measure => simp [intOf]; omega
            | false =>
              have HLB := Lib.hid (partM_most hj hpb)
              clear hpb
              go_wp2_with fail
              go_roundw
              case rel => exact ⟨k + 1, g, cap, ps, by omega, by go_num, rfl, by rw [picked_miss HLB.out]; exact HP.out, HR.out, HI.out, HBW.out⟩
              case measure => simp [intOf]; omega
          · have HJ := Lib.hid (show j = m by omega)
            cases hpb : partM p k j with
            | false =>
              have HLB := Lib.hid (partM_most hj hpb)
              clear hpb
              go_wp2_with fail
              go_roundw
              case rel => exact ⟨k + 1, g, cap, ps, by omega, by go_num, rfl, by rw [picked_miss HLB.out]; exact HP.out, HR.out, HI.out, HBW.out⟩
              case measure => simp [intOf]; omega
            | true =>
              have HLB := Lib.hid (show mostB m p k = true by rw [← partM_end, ← HJ.out]; exact hpb)
              clear hpb
              go_wp2_with (first
                | (go_at_call 81; (refine (l01Of_any k _ hk128).mono ?_; rintro e w' ⟨⟨u, rfl, hu⟩, hb⟩; obtain ⟨ua, uc, rfl⟩ := hu.form; have hsz' := Nat.le_trans hszr hb.size; have HU := Lib.hid hu; have HBX := Lib.hid hb; have HROW' := Lib.hid (row_step HR.out hb); clear hu hb))
                | (at_builtin; refine wpList_append_own _ rfl _ _ 22 rfl w3.heap.size 35 i0 (.slice none 0 0) 1 24 Tryd.underlying22 hi hz0 hz1 hz2 rfl (by decide) _ _ _ rfl (World.ownsRow.alloc HROW'.out _) ⟨w'.heap.size, 0, none⟩ 1 1 [.slice ua (listOf k).length uc] rfl rfl (cell_one_new _ _ _) (by simp [Value.oneCell']) (by unfold maxLen; omega) (by omega) (by simp; omega) ?_; intro v' w1 hown2 hgrow2 _; obtain ⟨g', cap', rfl⟩ := ownsRow_succ hown2; have HO2 := Lib.hid hown2; have HG2 := Lib.hid hgrow2; clear hown2 hgrow2))
              go_roundw
              case rel =>
                refine ⟨k + 1, g', cap', ps ++ [(.slice ua (listOf k).length uc, listOf k)], by omega, by go_num, by rw [List.length_append]; rfl, ?_, ?_, fun q hq => ?_, ?_⟩
                · rw [picked_hit HLB.out, List.map_append, HP.out]; rfl
                · rw [List.map_append, List.length_append]; exact HO2.out
                · have hq' : OwnI w' w3.heap.size q.1 q.2 := by
                    rcases List.mem_append.1 hq with h2 | h2
                    · exact (HI.out q h2).step HBX.out
                    · obtain rfl := List.mem_singleton.1 h2
                      exact HU.out.mono hszr
                  exact (World.ownsRow.alloc hq' _).kept HG2.out (rows_apart hq' HROW'.out (by decide))
                · exact ((HBW.out.trans (HBX.out.mono hszr)).alloc hsz' _).grown HG2.out (by simp; omega) (fun q hq => by have := (HROW'.out.lt q hq).1; omega)
              case measure => simp [intOf]; omega
      · have HK := Lib.hid (show k = n by omega)
        clear hbel q0
        go_wp2_with fail
        refine (l01Sorted_any g cap w3.heap.size ps wr HR.out HI.out (by omega)).mono ?_
        rintro e w' ⟨rfl, hrow, hin, hb⟩
        have hso := sorts_of ps
        rw [HP.out, HK.out, HN.out] at hso
        have hfo := sorted_pick m7 _ hso
        have HFO := Lib.hid (show pickOf (mostB m p) (lexAll m) = (sortFrom ltP (ps.length - 1) 1 ps).map Prod.snd from hfo.symm)
        have HSL := Lib.hid (show (sortFrom ltP (ps.length - 1) 1 ps).length = ps.length by
          have := congrArg List.length HFO.out
          have h2 := hso.1.length_eq
          rw [List.length_map] at h2
          rw [h2, ← HN.out, ← HK.out, ← HP.out, List.length_map])
        have HR2 := Lib.hid hrow
        have HI2 := Lib.hid hin
        have HB5 := Lib.hid hb
        clear hrow hin hb hso hfo
        generalize sortFrom ltP (ps.length - 1) 1 ps = S at *
        go_wp2_with fail
        go_ret2
        rw [HV.out, HC0.out, HFO.out]
        refine ⟨⟨some ⟨g, 0, none⟩, cap, ?_, ?_⟩, ?_⟩
        · rw [List.length_map, HSL.out]; rfl
        · exact (rows2_of HSL.out HR2.out HI2.out).mono HB3.out.size
        · exact HB3.out.trans ((HBW.out.trans HB5.out).mono HB3.out.size)

set_option maxHeartbeats 1000000 in
set_option maxRecDepth 100000 in
theorem implGb_any (h : Int) (a : Option Addr) (zss : List (List Int)) (c : Nat) (w : World) (hr : Rows2 w a zss) (hl : Small2 zss) :
    Calls Tryd.prog 37 #[.agg #[.int .i64 h, .slice a zss.length c]] w (GivesRY w (gbOf h zss) (okCode h zss)) := by
  have hb1 := (Below.refl w.heap.size w).alloc (Nat.le_refl _) (.cells #[.int .i64 h, .slice a zss.length c] 27)
  have c0 : (w.alloc (.cells #[.int .i64 h, .slice a zss.length c] 27)).cell? ⟨w.heap.size, 0, none⟩ = some (.int .i64 h) := by simp
  have hlt0 : w.heap.size < (w.alloc (.cells #[.int .i64 h, .slice a zss.length c] 27)).heap.size := by simp
  have HR := Lib.hid (hr.step hb1)
  have HL := Lib.hid hl
  have HB := Lib.hid hb1
  clear hr hl hb1
  cases hf : tell (FamOk h zss) with
  | false =>
    have HFO := Lib.hid (of_tell_false hf)
    have HF := Lib.hid hf
    clear hf
    go_enter Tryd.func37, Tryd.ntmps37
    go_wp2_with fail
    refine (tableOf_any h a zss c _ HR.out HL.out).mono ?_
    generalize w.alloc (.cells #[.int .i64 h, .slice a zss.length c] 27) = w1 at *
    rintro e w2 ⟨-, hn, hb⟩
    obtain rfl := hn HFO.out
    have HB2 := Lib.hid (chain HB.out hb)
    clear hn hb
    go_wp2_with fail
    go_ret2
    rw [show okCode h zss = 1 by rw [okCode, HF.out]; rfl, show gbOf h zss = [] by rw [gbOf, HF.out]; rfl]
    exact ⟨⟨_, [], rfl, ⟨World.ownsRow_nil _ _ _ _, RowsOwn.nil _ _⟩⟩, HB2.out⟩
  | true =>
    have HFO := Lib.hid (of_tell hf)
    have HF := Lib.hid hf
    have hh1 : 1 ≤ h := HFO.out.1.1
    have hh7 : h ≤ 7 := HFO.out.1.2
    clear hf
    obtain ⟨m, rfl⟩ : ∃ m : Nat, h = (m : Int) := ⟨h.toNat, by omega⟩
    have m1 : 1 ≤ m := by omega
    have m7 : m ≤ 7 := by omega
    have HV := Lib.hid (show gbOf (m : Int) zss = pickOf (mostB m (tabOf (m : Int) zss)) (lexAll m) by rw [gbOf, HF.out, Int.toNat_natCast]; exact Gb_same zss m7)
    have HC0 := Lib.hid (show okCode (m : Int) zss = 0 by rw [okCode, HF.out]; rfl)
    go_enter Tryd.func37, Tryd.ntmps37
    go_wp2_with fail
    refine (tableOf_any (m : Int) a zss c _ HR.out HL.out).mono ?_
    generalize w.alloc (.cells #[.int .i64 (m : Int), .slice a zss.length c] 27) = w1 at *
    rintro e w2 ⟨hy, -, hb⟩
    obtain ⟨T, rfl, hT, htab⟩ := hy HFO.out
    rw [Int.toNat_natCast] at htab
    have HTA := Lib.hid htab
    have d0 := (hb.cell (p := ⟨w.heap.size, 0, none⟩) hlt0).trans c0
    have HB2 := Lib.hid (chain HB.out hb)
    clear htab hy hb c0
    generalize tabOf (m : Int) zss = q at *
    go_wp2_with fail
    refine (groupsBy_any m _ #[.pointer (some ⟨T, 0, none⟩)] #[] (mostB m q) w2 m1 m7 (fun W hb => most_chooses T m q W m7 (HTA.out.below hb (World.block_lt_of_cell? _ _ HTA.out.h0)))).mono ?_
    rintro e w3 ⟨⟨v, us, rfl, hrow, hrows⟩, hb⟩
    have HRW := Lib.hid hrow
    have HRS := Lib.hid hrows
    have HB3 := Lib.hid (chain HB2.out hb)
    clear hrow hrows hb d0
    go_wp2_with fail
    go_ret2
    rw [HV.out, HC0.out]
    exact ⟨⟨_, us, rfl, (Own.lower ⟨HRW.out, HRS.out⟩ HB2.out.size)⟩, HB3.out⟩
end Go.Proofs.YtpkflamhniidiaaDoor

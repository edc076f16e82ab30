/- GreatestBlocked, the model's and the program's. -/
import Derived.Test.YteifllengcacbaaDoorTbl
import Derived.Test.YteifllengcacbaaDoorTof
import Derived.Test.YteifllengcacbaaDoorNeed
import Derived.Test.YteifllengcacbaaDoorLawR
namespace Go.Proofs.YteifllengcacbaaDoor
open Go.RowKit Go.Deep Go.Shelf
set_option linter.unusedVariables false

def addOne (x i : Nat) : Nat := x ||| 2 ^ i
theorem addOne_lt {x i m : Nat} (hx : x < 2 ^ m) (hi : i < m) : addOne x i < 2 ^ m := Nat.or_lt_two_pow hx (Nat.pow_lt_pow_right (by omega) hi)
theorem addOne_small {x i : Nat} (hx : x < 128) (hi : i ≤ 6) : addOne x i < 128 := Nat.or_lt_two_pow (n := 7) hx (pow_small hi)
/-- Nobody of so many is missing without whom it might open, and it does not open. -/
def mostB (h : Nat) (q : Nat → Bool) (x : Nat) : Bool := ((List.range h).all fun i => x.testBit i || q (addOne x i)) && !q x
def partM (p : Nat → Bool) (x j : Nat) : Bool := !p x && (List.range j).all fun i => x.testBit i || p (addOne x i)
theorem partM_zero (p : Nat → Bool) (x : Nat) : partM p x 0 = !p x := by simp [partM]
theorem partM_succ (p : Nat → Bool) (x j : Nat) : partM p x (j + 1) = (partM p x j && (x.testBit j || p (addOne x j))) := by
  simp only [partM, List.range_succ, List.all_append, List.all_cons, List.all_nil, Bool.and_true, Bool.and_assoc]
theorem partM_end (p : Nat → Bool) (x h : Nat) : partM p x h = mostB h p x := by unfold partM mostB; rw [Bool.and_comm]
theorem partM_more {p : Nat → Bool} {x j : Nat} (h : partM p x j = false) : ∀ n, partM p x (j + n) = false
  | 0 => h
  | n + 1 => by rw [← Nat.add_assoc, partM_succ, partM_more h n]; rfl
theorem partM_most {p : Nat → Bool} {x j h : Nat} (hj : j ≤ h) (hp : partM p x j = false) : mostB h p x = false := by
  rw [← partM_end]
  have := partM_more hp (h - j)
  rwa [Nat.add_sub_cancel' hj] at this
theorem of0_fact : ∀ x : Nat, x < 128 → ∀ n : Nat, n < 7 → (bits BinOp.and IntKind.i64 ((x : Int) / 2 ^ n) 1 == 0) = !x.testBit n := by decide +kernel
theorem mostB_congr {m : Nat} {p q : Nat → Bool} {x : Nat} (hx : x < 2 ^ m) (e : ∀ y, y < 2 ^ m → p y = q y) : mostB m p x = mostB m q x := by
  unfold mostB
  rw [e x hx]
  congr 1
  rw [Bool.eq_iff_iff, List.all_eq_true, List.all_eq_true]
  exact ⟨fun k i hi => by rw [← e _ (addOne_lt hx (List.mem_range.1 hi))]; exact k i hi, fun k i hi => by rw [e _ (addOne_lt hx (List.mem_range.1 hi))]; exact k i hi⟩
noncomputable def gbOf (h : Int) (zss : List (List Int)) : List (List Int) := if tell (FamOk h zss) = true then pickOf (mostB h.toNat (tblAt zss zss.length)) (lexAll h.toNat) else []
theorem gb_small (h : Int) (zss : List (List Int)) : Small2 (gbOf h zss) := by
  unfold gbOf
  split
  · rename_i k
    have := (of_tell k).1
    exact famOf_small (by omega) _
  · exact lens_small (by simp) (by simp)
theorem Gb_same {m : Nat} (zss : List (List Int)) (h7 : m ≤ 7) : pickOf (mostB m (tblAt zss zss.length)) (lexAll m) = pickOf (mostB m (tabOf (m : Int) zss)) (lexAll m) :=
  pickOf_congr fun y hy => mostB_congr ((mem_lex h7 y).1 hy) fun z hz => by unfold tabOf; rw [Int.toNat_natCast]; exact (seenBy_all h7 _ hz).symm

set_option maxRecDepth 100000 in
set_option maxHeartbeats 400000 in
theorem isMost_any (T h x : Nat) (q : Nat → Bool) (w : World) (hx : x < 128) (h7 : h ≤ 7) (ht : TableAt w T h q) : Calls Tryd.prog 49 #[.pointer (some ⟨T, 0, none⟩), .int .u64 x] w fun e w' => e = .returned (.bool (mostB h q x)) ∧ w = w' := by
  have h0 := ht.h0
  have HT := Lib.hid ht
  clear ht
  go_enter Tryd.func49, Tryd.ntmps49
  go_wp2_with fail
  go_loopw [10] (fun i wr => ∃ k : Nat, k ≤ h ∧ i = .int .i64 k ∧ wr = w ∧ (∀ j, j < k → (x.testBit j || q (addOne x j)) = true))
    (fun i _ => h - (intOf i).toNat)
  case atStart => exact ⟨0, by omega, rfl, rfl, fun j hj => by omega⟩
  case round =>
    obtain ⟨k, hk, rfl, rfl, hall⟩ := hrel
    have HA := Lib.hid hall
    clear hall
    by_cases hlt : k < h
    · cases hbit : x.testBit k with
      | false =>
        have HB := Lib.hid hbit
        clear hbit
        cases hq : q (addOne x k) with
        | false =>
          have HQ := Lib.hid hq
          clear hq
          go_wp2_with (first
            | (go_at_call 78; refine (has_any x k wr hx (by omega) (by omega)).mono ?_; rintro e w' ⟨rfl, rfl⟩; rw [Int.toNat_natCast, HB.out])
            | (go_at_call 61; refine (with_any x k wr hx (by omega) (by omega)).mono ?_; rintro e w' ⟨rfl, rfl⟩; rw [Int.toNat_natCast, show x ||| 2 ^ k = addOne x k from rfl])
            | (go_at_call 47; refine (opens_any T h (addOne x k) q wr (addOne_small hx (by omega)) HT.out).mono ?_; rintro e w' ⟨rfl, rfl⟩; rw [HQ.out]))
          go_ret
          refine ⟨ret_bool (Eq.symm ?_), rfl⟩
          unfold mostB
          rw [Bool.and_eq_false_iff]
          refine .inl (List.all_eq_false.2 ⟨k, by simpa using hlt, ?_⟩)
          rw [HB.out, HQ.out]; decide
        | true =>
          have HQ := Lib.hid hq
          clear hq
          go_wp2_with (first
            | (go_at_call 78; refine (has_any x k wr hx (by omega) (by omega)).mono ?_; rintro e w' ⟨rfl, rfl⟩; rw [Int.toNat_natCast, HB.out])
            | (go_at_call 61; refine (with_any x k wr hx (by omega) (by omega)).mono ?_; rintro e w' ⟨rfl, rfl⟩; rw [Int.toNat_natCast, show x ||| 2 ^ k = addOne x k from rfl])
            | (go_at_call 47; refine (opens_any T h (addOne x k) q wr (addOne_small hx (by omega)) HT.out).mono ?_; rintro e w' ⟨rfl, rfl⟩; rw [HQ.out]))
          go_roundw
          case rel =>
            refine ⟨k + 1, by omega, by go_num, by simp, fun j hj => ?_⟩
            rcases Nat.lt_succ_iff_lt_or_eq.1 hj with h1 | h1
            · exact HA.out j h1
            · subst h1; rw [HQ.out, Bool.or_true]
          case measure => simp [intOf]; omega
      | true =>
        have HB := Lib.hid hbit
        clear hbit
        go_wp2_with (first
            | (go_at_call 78; refine (has_any x k wr hx (by omega) (by omega)).mono ?_; rintro e w' ⟨rfl, rfl⟩; rw [Int.toNat_natCast, HB.out]))
        go_roundw
        case rel =>
          refine ⟨k + 1, by omega, by go_num, by simp, fun j hj => ?_⟩
          rcases Nat.lt_succ_iff_lt_or_eq.1 hj with h1 | h1
          · exact HA.out j h1
          · subst h1; rw [HB.out]; rfl
        case measure => simp [intOf]; omega
    · have e7 : k = h := by omega
      have H7 := Lib.hid e7
      clear e7
      go_wp2_with (first
            | (go_at_call 47; refine (opens_any T h x q wr hx HT.out).mono ?_; rintro e w' ⟨rfl, rfl⟩))
      go_ret
      refine ⟨ret_bool (Eq.symm ?_), rfl⟩
      unfold mostB
      rw [List.all_eq_true.2 (fun j hj => HA.out j (by have := H7.out; have := List.mem_range.1 hj; omega)), Bool.true_and]

theorem most_chooses (T h : Nat) (q : Nat → Bool) (w : World) (h7 : h ≤ 7) (ht : TableAt w T h q) : Chooses w 49 #[.pointer (some ⟨T, 0, none⟩)] #[] (mostB h q) := by
  refine ⟨enters_of Tryd.func49 (by kernel_rfl) rfl, fun x W hb => ?_⟩
  show Calls Tryd.prog 49 #[.pointer (some ⟨T, 0, none⟩), .int .u64 (x.val : Int)] W _
  have hT : TableAt W T h q := ht.below hb (World.block_lt_of_cell? _ _ ht.h0)
  refine (isMost_any T h x.val q W x.isLt h7 hT).mono ?_
  rintro e w' ⟨rfl, rfl⟩
  exact ⟨rfl, Below.refl _ _⟩

set_option maxHeartbeats 1000000 in
set_option maxRecDepth 100000 in
theorem implGb_any (h : Int) (a : Option Addr) (zss : List (List Int)) (c : Nat) (w : World) (hr : Rows2 w a zss) (hl : Small2 zss) :
    Calls Tryd.prog 15 #[.agg #[.int .i64 h, .slice a zss.length c]] w (GivesRY w (gbOf h zss) (okCode h zss)) := by
  have hb1 := (Below.refl w.heap.size w).alloc (Nat.le_refl _) (.cells #[.int .i64 h, .slice a zss.length c] 26)
  have c0 : (w.alloc (.cells #[.int .i64 h, .slice a zss.length c] 26)).cell? ⟨w.heap.size, 0, none⟩ = some (.int .i64 h) := by simp
  have hlt0 : w.heap.size < (w.alloc (.cells #[.int .i64 h, .slice a zss.length c] 26)).heap.size := by simp
  have HR := Lib.hid (hr.step hb1)
  have HL := Lib.hid hl
  have HB := Lib.hid hb1
  clear hr hl hb1
  cases hf : tell (FamOk h zss) with
  | false =>
    have HFO := Lib.hid (of_tell_false hf)
    have HF := Lib.hid hf
    clear hf
    go_enter Tryd.func15, Tryd.ntmps15
    go_wp2_with fail
    refine (tableOf_any h a zss c _ HR.out HL.out).mono ?_
    generalize w.alloc (.cells #[.int .i64 h, .slice a zss.length c] 26) = w1 at *
    rintro e w2 ⟨-, hn, hb⟩
    obtain rfl := hn HFO.out
    have HB2 := Lib.hid (chain HB.out hb)
    clear hn hb
    go_wp2_with fail
    go_ret2
    rw [show okCode h zss = 1 by rw [okCode, HF.out]; rfl, show gbOf h zss = [] by rw [gbOf, HF.out]; rfl]
    exact ⟨⟨_, [], rfl, ⟨World.ownsRow_nil _ _ _ _, RowsOwn.nil _ _⟩⟩, HB2.out⟩
  | true =>
    have HFO := Lib.hid (of_tell hf)
    have HF := Lib.hid hf
    have hh1 : 1 ≤ h := HFO.out.1.1
    have hh7 : h ≤ 7 := HFO.out.1.2
    clear hf
    obtain ⟨m, rfl⟩ : ∃ m : Nat, h = (m : Int) := ⟨h.toNat, by omega⟩
    have m1 : 1 ≤ m := by omega
    have m7 : m ≤ 7 := by omega
    have HV := Lib.hid (show gbOf (m : Int) zss = pickOf (mostB m (tabOf (m : Int) zss)) (lexAll m) by rw [gbOf, HF.out, Int.toNat_natCast]; exact Gb_same zss m7)
    have HC0 := Lib.hid (show okCode (m : Int) zss = 0 by rw [okCode, HF.out]; rfl)
    go_enter Tryd.func15, Tryd.ntmps15
    go_wp2_with fail
    refine (tableOf_any (m : Int) a zss c _ HR.out HL.out).mono ?_
    generalize w.alloc (.cells #[.int .i64 (m : Int), .slice a zss.length c] 26) = w1 at *
    rintro e w2 ⟨hy, -, hb⟩
    obtain ⟨T, rfl, hT, htab⟩ := hy HFO.out
    rw [Int.toNat_natCast] at htab
    have HTA := Lib.hid htab
    have d0 := (hb.cell (p := ⟨w.heap.size, 0, none⟩) hlt0).trans c0
    have HB2 := Lib.hid (chain HB.out hb)
    clear htab hy hb c0
    generalize tabOf (m : Int) zss = q at *
    go_wp2_with fail
    refine (groupsBy_any m _ #[.pointer (some ⟨T, 0, none⟩)] #[] (mostB m q) w2 m1 m7 (fun W hb => most_chooses T m q W m7 (HTA.out.below hb (World.block_lt_of_cell? _ _ HTA.out.h0)))).mono ?_
    rintro e w3 ⟨⟨v, us, rfl, hrow, hrows⟩, hb⟩
    have HRW := Lib.hid hrow
    have HRS := Lib.hid hrows
    have HB3 := Lib.hid (chain HB2.out hb)
    clear hrow hrows hb d0
    go_wp2_with fail
    go_ret2
    rw [HV.out, HC0.out]
    exact ⟨⟨_, us, rfl, (Own.lower ⟨HRW.out, HRS.out⟩ HB2.out.size)⟩, HB3.out⟩
end Go.Proofs.YteifllengcacbaaDoor

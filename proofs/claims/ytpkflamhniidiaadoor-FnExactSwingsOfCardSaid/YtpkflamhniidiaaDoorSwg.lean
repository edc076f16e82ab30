/- The model's SwingsOf. -/
import Derived.Test.YtpkflamhniidiaaDoorGb
import Derived.Test.YtpkflamhniidiaaDoorCntI
namespace Go.Proofs.YtpkflamhniidiaaDoor
open Go.RowKit Go.Deep Go.Shelf
set_option linter.unusedVariables false

/-- A group that does not open, but does with holder i. -/
def swing (p : Nat → Bool) (i x : Nat) : Bool := !p x && p (addOne x i)
theorem addOne_set {x i : Nat} (h : x.testBit i = true) : addOne x i = x := by
  unfold addOne
  refine Nat.eq_of_testBit_eq fun j => ?_
  rw [Nat.testBit_or, Nat.testBit_two_pow]
  by_cases e : i = j
  · subst e; rw [h]; rfl
  · simp [e]
theorem swing_set {p : Nat → Bool} {i x : Nat} (h : x.testBit i = true) : swing p i x = false := by
  unfold swing; rw [addOne_set h]; cases p x <;> rfl
def swR (p : Nat → Bool) (k i : Nat) : Nat := ((List.range k).filter (swing p i)).length
theorem swR_succ (p : Nat → Bool) (k i : Nat) : swR p (k + 1) i = swR p k i + (if swing p i k = true then 1 else 0) := by
  unfold swR
  rw [List.range_succ, List.filter_append, List.length_append]
  by_cases h : swing p i k = true <;> simp [h]
theorem swR_le (p : Nat → Bool) (k i : Nat) : swR p k i ≤ k := by
  unfold swR
  exact Nat.le_trans (List.length_filter_le _ _) (by simp)
theorem swR_congr {m : Nat} {p q : Nat → Bool} (h : ∀ y, y < 2 ^ m → p y = q y) {i : Nat} (hi : i < m) : swR p (2 ^ m) i = swR q (2 ^ m) i := by
  unfold swR
  congr 1
  refine List.filter_congr fun y hy => ?_
  have hy := List.mem_range.1 hy
  rw [swing, swing, h y hy, h _ (addOne_lt hy hi)]
def swL (p : Nat → Bool) (pre : List G7) (i : Nat) : Nat := (pre.filter fun y => swing p i y.val).length
theorem swL_snoc (p : Nat → Bool) (pre : List G7) (x : G7) (i : Nat) : swL p (pre ++ [x]) i = swL p pre i + (if swing p i x.val = true then 1 else 0) := by
  unfold swL
  rw [List.filter_append, List.length_append]
  by_cases h : swing p i x.val = true <;> simp [h]
theorem swL_le (p : Nat → Bool) (pre : List G7) (i : Nat) : swL p pre i ≤ pre.length := List.length_filter_le _ _
theorem sw_same {h : Nat} (h7 : h ≤ 7) (p : Nat → Bool) (i : Nat) : swL p (lexAll h) i = swR p (2 ^ h) i := by
  have h1 := List.isPerm_iff.1 (lex_perm_fact ⟨h, by omega⟩)
  have h2 := (h1.filter (swing p i)).length_eq
  rw [List.filter_map, List.length_map] at h2
  exact h2
def swList (p : Nat → Bool) (m : Nat) : List Int := (List.range m).map fun i => ((swR p (2 ^ m) i : Nat) : Int)
theorem swList_len (p : Nat → Bool) (m : Nat) : (swList p m).length = m := by simp [swList]
theorem swList_nth (p : Nat → Bool) {m i : Nat} (h : i < m) : nth (swList p m) i = ((swR p (2 ^ m) i : Nat) : Int) := by
  rw [nth_lt (by rw [swList_len]; exact h)]; simp [swList]
noncomputable def swOf (h : Int) (zss : List (List Int)) : List Int := if tell (FamOk h zss) = true then swList (tblAt zss zss.length) h.toNat else []
theorem swOf_len (h : Int) (zss : List (List Int)) : (swOf h zss).length ≤ 1048576 := by
  unfold swOf
  split
  · rename_i k
    have := (of_tell k).1
    rw [swList_len]; omega
  · simp
/-- The row in the middle of a round. -/
def swMid (A B : Nat → Nat) (j i : Nat) : Nat := if i < j then B i else A i
theorem swMid_zero (A B : Nat → Nat) (i : Nat) : swMid A B 0 i = A i := by simp [swMid]
theorem swMid_all (A B : Nat → Nat) {j i : Nat} (h : i < j) : swMid A B j i = B i := by simp [swMid, h]
theorem swMid_at (A B : Nat → Nat) (j : Nat) : swMid A B j j = A j := by simp [swMid]
theorem swMid_keep {A B : Nat → Nat} {j : Nat} (h : B j = A j) (i : Nat) : swMid A B j i = swMid A B (j + 1) i := by
  unfold swMid
  by_cases e : i = j
  · subst e; simp [h]
  · by_cases e2 : i < j
    · simp [e2, show i < j + 1 by omega]
    · simp [e2, show ¬ i < j + 1 by omega]
theorem swMid_set {A B : Nat → Nat} {j : Nat} (h : B j = A j + 1) (i : Nat) : (if i = j then A j + 1 else swMid A B j i) = swMid A B (j + 1) i := by
  unfold swMid
  by_cases e : i = j
  · subst e; simp [h]
  · by_cases e2 : i < j
    · simp [e, e2, show i < j + 1 by omega]
    · simp [e, e2, show ¬ i < j + 1 by omega]

set_option maxHeartbeats 2000000 in
set_option maxRecDepth 100000 in
theorem specSwg_any (h : Int) (a : Option Addr) (zss : List (List Int)) (c : Nat) (w : World) (hr : Rows2 w a zss) (hl : Lens zss) :
    Calls Tryd.prog 58 #[.agg #[.int .i64 h, .slice a zss.length c]] w (GivesIntsCode w (swOf h zss) (okCode h zss)) := by
  have hb1 := (Below.refl w.heap.size w).alloc (Nat.le_refl _) (.cells #[.int .i64 h, .slice a zss.length c] 27)
  have hbox : FamBox (w.alloc (.cells #[.int .i64 h, .slice a zss.length c] 27)) w.heap.size h a zss.length c := ⟨by simp, by simp⟩
  have hR1 := Lib.hid (hr.step hb1)
  have HX := Lib.hid hbox
  have HL := Lib.hid hl
  have HB := Lib.hid hb1
  have hlt0 : w.heap.size < (w.alloc (.cells #[.int .i64 h, .slice a zss.length c] 27)).heap.size := by simp
  clear hr hl hbox hb1
  cases hf : tell (FamOk h zss) with
  | false =>
    have HF := Lib.hid hf
    clear hf
    go_enter Tryd.func58, Tryd.ntmps58
    go_wp2_with fail
    refine (l01Ok_any w.heap.size h a zss c _ HX.out hR1.out HL.out).mono ?_
    generalize w.alloc (.cells #[.int .i64 h, .slice a zss.length c] 27) = w1 at *
    rintro e w' ⟨rfl, hq⟩
    rw [HF.out]
    have HB2 := Lib.hid (chain HB.out (quiet_below hq))
    have hsz := HB2.out.size
    clear hq
    go_wp2_with fail
    go_ret2
    refine ⟨⟨_, by rw [okCode, HF.out]; rfl, ?_⟩, HB2.out.alloc hsz _⟩
    rw [swOf, HF.out]
    exact World.ownsRow_made w' #[] 0 hsz (by unfold maxLen; omega) rfl
  | true =>
    have HFO := Lib.hid (of_tell hf)
    have HF := Lib.hid hf
    have hh1 : 1 ≤ h := HFO.out.1.1
    have hh7 : h ≤ 7 := HFO.out.1.2
    clear hf
    obtain ⟨m, rfl⟩ : ∃ m : Nat, h = (m : Int) := ⟨h.toNat, by omega⟩
    have m1 : 1 ≤ m := by omega
    have m7 : m ≤ 7 := by omega
    obtain ⟨n, hn⟩ : ∃ n, n = 2 ^ m := ⟨_, rfl⟩
    have hn128 : n ≤ 128 := by rw [hn]; exact Nat.pow_le_pow_right (by decide) m7
    have HN := Lib.hid hn
    have hmk := run_make_row' (P := Tryd.prog) 35 2 (.int .i64 0) 8 Tryd.underlying35 Tryd.infoInt64 rfl .i64 .i64 m (by omega) (by omega)
    have HV := Lib.hid (show swOf (m : Int) zss = swList (tblAt zss zss.length) m by rw [swOf, HF.out, Int.toNat_natCast]; rfl)
    have HC0 := Lib.hid (show okCode (m : Int) zss = 0 by rw [okCode, HF.out]; rfl)
    clear hn
    go_enter Tryd.func58, Tryd.ntmps58
    go_wp2_with fail
    refine (l01Ok_any w.heap.size (m : Int) a zss c _ HX.out hR1.out HL.out).mono ?_
    generalize w.alloc (.cells #[.int .i64 (m : Int), .slice a zss.length c] 27) = w1 at *
    rintro e w2 ⟨rfl, hq⟩
    rw [HF.out]
    have HB2 := Lib.hid (chain HB.out (quiet_below hq))
    have HR2 := Lib.hid (hR1.out.quiet hq)
    have HX2 := Lib.hid (HX.out.quiet hq)
    clear hq
    go_wp2_with fail
    refine (l01Table_any m n w.heap.size a zss c w2 m1 m7 HN.out HX2.out HR2.out HL.out (fun i hi => (HFO.out.2.1 i hi).1)).mono ?_
    rintro e w3 ⟨rfl, hbo, hb3⟩
    have hs3 := hb3.size
    have HX3 := Lib.hid (HX2.out.below hb3 (Nat.le_refl _))
    have p0 := HX3.out.1
    have HB3 := Lib.hid (chain HB2.out hb3)
    have HBO := Lib.hid hbo
    clear hbo hb3
    generalize tblAt zss zss.length = p at *
    generalize w2.heap.size = tb at *
    go_wp2_with fail
    have hr0 := World.rowIs_made w3 (.int .i64 0) m 2
    have hB0 := (Below.refl w3.heap.size w3).alloc (Nat.le_refl _) (.cells (madeCells #[.int .i64 0] m) 2)
    clear hmk p0
    go_loopw [6] (fun i wr => ∃ k : Nat, k ≤ n ∧ i = .int .i64 k ∧ wr.rowIs w3.heap.size 2 m (fun s => .int .i64 ((swR p k s : Nat) : Int)) ∧ Below w3.heap.size w3 wr)
      (fun i _ => n - (intOf i).toNat)
    case atStart => exact ⟨0, Nat.zero_le _, rfl, hr0.congr (fun i _ => by simp [swR]), hB0⟩
    case round =>
      obtain ⟨k, hk, rfl, hrow, hbel⟩ := hrel
      clear hr0 hB0
      have HR := Lib.hid hrow
      have HBW := Lib.hid hbel
      by_cases hlt : k < n
      · have hki : (k : Int) < (n : Int) := by omega
        have hk128 : k < 128 := by omega
        clear hrow hbel
        obtain ⟨wo, rfl⟩ : ∃ wo : World, wo = wr := ⟨_, rfl⟩
        go_wp2_with fail
        go_loopw [7] (fun i wr2 => ∃ j : Nat, j ≤ m ∧ i = .int .i64 j ∧ wr2.rowIs w3.heap.size 2 m (fun s => .int .i64 ((swMid (swR p k) (swR p (k + 1)) j s : Nat) : Int)) ∧ Below w3.heap.size w3 wr2)
          (fun i _ => m - (intOf i).toNat)
        case atStart => exact ⟨0, Nat.zero_le _, rfl, HR.out.congr (fun s _ => by rw [swMid_zero]), HBW.out⟩
        case round =>
          obtain ⟨j, hj, rfl, hrow, hbel⟩ := hrel
          have q0 := (HX3.out.below hbel (Nat.le_refl _)).1
          have HR2 := Lib.hid hrow
          have HB2 := Lib.hid hbel
          obtain ⟨bb, oo, he, hc⟩ := HBO.out.step hbel
          cases he
          have hck : wr.cell? ⟨tb, k, none⟩ = some (.bool (p k)) := by simpa using hc k hlt
          have HCC := Lib.hid (show ∀ y, y < n → wr.cell? ⟨tb, y, none⟩ = some (.bool (p y)) from fun y hy => by simpa using hc y hy)
          have HS := Lib.hid (swR_succ p k j)
          clear hc hbel
          by_cases hjm : j < m
          · have hji : (j : Int) < (m : Int) := by omega
            have hof := of0_fact k (by omega) j (by omega)
            have hcell := hrow.cell hjm
            rw [swMid_at] at hcell
            have hfr := hrow.frozen j
            have hbd := swR_le p k j
            clear hrow
            cases hbit : k.testBit j with
            | true =>
              have HSW := Lib.hid (swing_set (p := p) hbit)
              rw [hbit] at hof
              simp only [Bool.not_true] at hof
              clear hbit
              go_wp2_with fail
              go_roundw
              case rel => exact ⟨j + 1, by omega, by go_num, HR2.out.congr (fun s _ => by rw [swMid_keep (by rw [HS.out, HSW.out]; simp)]), HB2.out⟩
              case measure => simp [intOf]; omega
            | false =>
              rw [hbit] at hof
              simp only [Bool.not_false] at hof
              clear hbit
              cases hpk : p k with
              | true =>
                rw [hpk] at hck
                have HSW := Lib.hid (show swing p j k = false by unfold swing; rw [hpk]; rfl)
                clear hpk
                go_wp2_with fail
                go_roundw
                case rel => exact ⟨j + 1, by omega, by go_num, HR2.out.congr (fun s _ => by rw [swMid_keep (by rw [HS.out, HSW.out]; simp)]), HB2.out⟩
                case measure => simp [intOf]; omega
              | false =>
                rw [hpk] at hck
                have hor := bits_step (g := k) (n := j) (by omega) (by omega)
                have hal : addOne k j < n := by rw [HN.out]; exact addOne_lt (by rw [← HN.out]; exact hlt) hjm
                have hcd := HCC.out _ hal
                have hAO : k ||| 2 ^ j = addOne k j := rfl
                rw [hAO] at hor
                clear hAO
                have HSW := Lib.hid (show swing p j k = p (addOne k j) by unfold swing; rw [hpk]; rfl)
                clear hpk
                generalize addOne k j = y at *
                have hyi : (y : Int) < (n : Int) := by omega
                cases hpy : p y with
                | false =>
                  rw [hpy] at hcd
                  have HPY := Lib.hid hpy
                  clear hpy
                  go_wp2_with fail
                  go_roundw
                  case rel => exact ⟨j + 1, by omega, by go_num, HR2.out.congr (fun s _ => by rw [swMid_keep (by rw [HS.out, HSW.out, HPY.out]; simp)]), HB2.out⟩
                  case measure => simp [intOf]; omega
                | true =>
                  rw [hpy] at hcd
                  have HPY := Lib.hid hpy
                  have HSET := Lib.hid (show ∀ s, (if s = j then swR p k j + 1 else swMid (swR p k) (swR p (k + 1)) j s) = swMid (swR p k) (swR p (k + 1)) (j + 1) s from fun s => swMid_set (by rw [HS.out, HSW.out, HPY.out]; simp) s)
                  clear hpy
                  generalize hcv : swR p k j = cv at *
                  have HCV := Lib.hid hcv
                  clear hcv
                  go_wp2_with fail
                  go_roundw
                  case rel =>
                    refine ⟨j + 1, by omega, by go_num, ?_, HB2.out.setCell (Nat.le_refl _) _⟩
                    refine (HR2.out.set j _).congr (fun s _ => ?_)
                    rw [← HSET.out]
                    by_cases e : s = j <;> simp [e]
                  case measure => simp [intOf]; omega
          · have HJ := Lib.hid (show j = m by omega)
            clear hrow hck
            go_wp2_with fail
            go_roundw
            case rel => exact ⟨k + 1, by omega, by go_num, HR2.out.congr (fun s hs => by rw [swMid_all _ _ (by have := HJ.out; omega)]), HB2.out⟩
            case measure => simp [intOf]; omega
      · have HK := Lib.hid (show k = n by omega)
        clear hrow hbel
        go_wp2_with fail
        go_ret2
        rw [HV.out, HC0.out]
        have hrow : wr.rowIs w3.heap.size 2 (swList p m).length (fun i => .int .i64 (nth (swList p m) i)) := by
          rw [swList_len]
          refine HR.out.congr fun i hi => ?_
          rw [swList_nth p hi, HK.out, HN.out]
        have ho := own_of_row hrow (by rw [swList_len]; unfold maxLen; omega)
        rw [swList_len] at ho
        exact ⟨⟨_, rfl, ho.mono HB3.out.size⟩, HB3.out.trans (HBW.out.mono HB3.out.size)⟩
end Go.Proofs.YtpkflamhniidiaaDoor

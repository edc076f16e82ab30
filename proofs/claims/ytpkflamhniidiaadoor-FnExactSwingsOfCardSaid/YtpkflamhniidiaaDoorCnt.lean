/- The model's CountBySize. -/
import Derived.Test.YtpkflamhniidiaaDoorTbl
import Derived.Test.YtpkflamhniidiaaDoorTof
import Derived.Test.YtpkflamhniidiaaDoorNeed
import Derived.Test.YtpkflamhniidiaaDoorMark2
namespace Go.Proofs.YtpkflamhniidiaaDoor
open Go.RowKit Go.Deep Go.Shelf
set_option linter.unusedVariables false

/-- A group of this size that opens. -/
def hits (p : Nat → Bool) (i x : Nat) : Bool := p x && ((listOf x).length == i)
def cntR (p : Nat → Bool) (k i : Nat) : Nat := ((List.range k).filter (hits p i)).length
theorem cntR_succ (p : Nat → Bool) (k i : Nat) : cntR p (k + 1) i = cntR p k i + (if hits p i k = true then 1 else 0) := by
  unfold cntR
  rw [List.range_succ, List.filter_append, List.length_append]
  by_cases h : hits p i k = true <;> simp [h]
theorem cntR_le (p : Nat → Bool) (k i : Nat) : cntR p k i ≤ k := by
  unfold cntR
  exact Nat.le_trans (List.length_filter_le _ _) (by simp)
theorem cntR_congr {p q : Nat → Bool} {k : Nat} (h : ∀ y, y < k → p y = q y) (i : Nat) : cntR p k i = cntR q k i := by
  unfold cntR
  congr 1
  refine List.filter_congr fun y hy => ?_
  rw [hits, hits, h y (List.mem_range.1 hy)]
def cntL (p : Nat → Bool) (pre : List G7) (i : Nat) : Nat := (pre.filter fun y => hits p i y.val).length
theorem cntL_snoc (p : Nat → Bool) (pre : List G7) (x : G7) (i : Nat) : cntL p (pre ++ [x]) i = cntL p pre i + (if hits p i x.val = true then 1 else 0) := by
  unfold cntL
  rw [List.filter_append, List.length_append]
  by_cases h : hits p i x.val = true <;> simp [h]
theorem cntL_le (p : Nat → Bool) (pre : List G7) (i : Nat) : cntL p pre i ≤ pre.length := List.length_filter_le _ _
theorem cnt_same {h : Nat} (h7 : h ≤ 7) (p : Nat → Bool) (i : Nat) : cntL p (lexAll h) i = cntR p (2 ^ h) i := by
  have h1 := List.isPerm_iff.1 (lex_perm_fact ⟨h, by omega⟩)
  have h2 := (h1.filter (hits p i)).length_eq
  rw [List.filter_map, List.length_map] at h2
  exact h2
def cntList (p : Nat → Bool) (m : Nat) : List Int := (List.range (m + 1)).map fun i => ((cntR p (2 ^ m) i : Nat) : Int)
theorem cntList_len (p : Nat → Bool) (m : Nat) : (cntList p m).length = m + 1 := by simp [cntList]
theorem cntList_nth (p : Nat → Bool) {m i : Nat} (h : i < m + 1) : nth (cntList p m) i = ((cntR p (2 ^ m) i : Nat) : Int) := by
  rw [nth_lt (by rw [cntList_len]; exact h)]; simp [cntList]
theorem size_fact : ∀ m : Nat, m ≤ 7 → ∀ x : Nat, x < 128 → x < 2 ^ m → (listOf x).length ≤ m := by decide +kernel
noncomputable def cntOf (h : Int) (zss : List (List Int)) : List Int := if tell (FamOk h zss) = true then cntList (tblAt zss zss.length) h.toNat else []
theorem cntOf_len (h : Int) (zss : List (List Int)) : (cntOf h zss).length ≤ 1048576 := by
  unfold cntOf
  split
  · rename_i k
    have := (of_tell k).1
    rw [cntList_len]; omega
  · simp

set_option maxHeartbeats 1000000 in
set_option maxRecDepth 100000 in
theorem specCnt_any (h : Int) (a : Option Addr) (zss : List (List Int)) (c : Nat) (w : World) (hr : Rows2 w a zss) (hl : Lens zss) :
    Calls Tryd.prog 56 #[.agg #[.int .i64 h, .slice a zss.length c]] w (GivesIntsCode w (cntOf h zss) (okCode h zss)) := by
  have hb1 := (Below.refl w.heap.size w).alloc (Nat.le_refl _) (.cells #[.int .i64 h, .slice a zss.length c] 27)
  have hbox : FamBox (w.alloc (.cells #[.int .i64 h, .slice a zss.length c] 27)) w.heap.size h a zss.length c := ⟨by simp, by simp⟩
  have hR1 := Lib.hid (hr.step hb1)
  have HX := Lib.hid hbox
  have HL := Lib.hid hl
  have HB := Lib.hid hb1
  clear hr hl hbox hb1
  cases hf : tell (FamOk h zss) with
  | false =>
    have HF := Lib.hid hf
    clear hf
    go_enter Tryd.func56, Tryd.ntmps56
    go_wp2_with fail
    refine (l01Ok_any w.heap.size h a zss c _ HX.out hR1.out HL.out).mono ?_
    generalize w.alloc (.cells #[.int .i64 h, .slice a zss.length c] 27) = w1 at *
    rintro e w' ⟨rfl, hq⟩
    rw [HF.out]
    have HB2 := Lib.hid (chain HB.out (quiet_below hq))
    have hsz := HB2.out.size
    clear hq
    go_wp2_with fail
    go_ret2
    refine ⟨⟨_, by rw [okCode, HF.out]; rfl, ?_⟩, HB2.out.alloc hsz _⟩
    rw [cntOf, HF.out]
    exact World.ownsRow_made w' #[] 0 hsz (by unfold maxLen; omega) rfl
  | true =>
    have HFO := Lib.hid (of_tell hf)
    have HF := Lib.hid hf
    have hh1 : 1 ≤ h := HFO.out.1.1
    have hh7 : h ≤ 7 := HFO.out.1.2
    clear hf
    obtain ⟨m, rfl⟩ : ∃ m : Nat, h = (m : Int) := ⟨h.toNat, by omega⟩
    have m1 : 1 ≤ m := by omega
    have m7 : m ≤ 7 := by omega
    obtain ⟨N, hN⟩ : ∃ N : Nat, (m : Int) + 1 = (N : Int) := ⟨m + 1, by omega⟩
    have hN1 : N ≤ 8 := by omega
    have HNM := Lib.hid (show N = m + 1 by omega)
    obtain ⟨n, hn⟩ : ∃ n, n = 2 ^ m := ⟨_, rfl⟩
    have hn128 : n ≤ 128 := by rw [hn]; exact Nat.pow_le_pow_right (by decide) m7
    have HN := Lib.hid hn
    have hmk := run_make_row' (P := Tryd.prog) 35 2 (.int .i64 0) 8 Tryd.underlying35 Tryd.infoInt64 rfl .i64 .i64 N (by omega) (by omega)
    have HV := Lib.hid (show cntOf (m : Int) zss = cntList (tblAt zss zss.length) m by rw [cntOf, HF.out, Int.toNat_natCast]; rfl)
    have HC0 := Lib.hid (show okCode (m : Int) zss = 0 by rw [okCode, HF.out]; rfl)
    clear hn
    go_enter Tryd.func56, Tryd.ntmps56
    go_wp2_with fail
    refine (l01Ok_any w.heap.size (m : Int) a zss c _ HX.out hR1.out HL.out).mono ?_
    generalize w.alloc (.cells #[.int .i64 (m : Int), .slice a zss.length c] 27) = w1 at *
    rintro e w2 ⟨rfl, hq⟩
    rw [HF.out]
    have HB2 := Lib.hid (chain HB.out (quiet_below hq))
    have HR2 := Lib.hid (hR1.out.quiet hq)
    have HX2 := Lib.hid (HX.out.quiet hq)
    clear hq
    go_wp2_with fail
    refine (l01Table_any m n w.heap.size a zss c w2 m1 m7 HN.out HX2.out HR2.out HL.out (fun i hi => (HFO.out.2.1 i hi).1)).mono ?_
    rintro e w3 ⟨rfl, hbo, hb3⟩
    have hs3 := hb3.size
    have p0 := (HX2.out.below hb3 (Nat.le_refl _)).1
    have HB3 := Lib.hid (chain HB2.out hb3)
    have HBO := Lib.hid hbo
    clear hbo hb3
    generalize tblAt zss zss.length = p at *
    generalize w2.heap.size = tb at *
    go_wp2_with fail
    have hr0 := World.rowIs_made w3 (.int .i64 0) N 2
    have hB0 := (Below.refl w3.heap.size w3).alloc (Nat.le_refl _) (.cells (madeCells #[.int .i64 0] N) 2)
    clear hmk p0
    go_loopw [6] (fun i wr => ∃ k : Nat, k ≤ n ∧ i = .int .i64 k ∧ wr.rowIs w3.heap.size 2 N (fun s => .int .i64 ((cntR p k s : Nat) : Int)) ∧ Below w3.heap.size w3 wr)
      (fun i _ => n - (intOf i).toNat)
    case atStart => exact ⟨0, Nat.zero_le _, rfl, hr0.congr (fun i _ => by simp [cntR]), hB0⟩
    case round =>
      obtain ⟨k, hk, rfl, hrow, hbel⟩ := hrel
      clear hr0 hB0
      have HR := Lib.hid hrow
      have HBW := Lib.hid hbel
      by_cases hlt : k < n
      · have hki : (k : Int) < (n : Int) := by omega
        have hk128 : k < 128 := by omega
        obtain ⟨bb, oo, he, hc⟩ := HBO.out.step hbel
        cases he
        have hck : wr.cell? ⟨tb, k, none⟩ = some (.bool (p k)) := by simpa using hc k hlt
        clear hc hrow hbel
        cases hp : p k with
        | true =>
          rw [hp] at hck
          have HP := Lib.hid hp
          clear hp
          go_wp2_with fail
          refine (l01Of_any k wr hk128).mono ?_
          rintro e w5 ⟨⟨u, rfl, hu⟩, hb⟩
          obtain ⟨ua, uc, rfl⟩ := hu.form
          have hrow := rowIs_below HR.out hb HR.out.lt
          have hsl := size_fact m m7 k hk128 (by rw [← HN.out]; exact hlt)
          have HSD := Lib.hid (show ∀ i, cntR p (k + 1) i = cntR p k i + (if (listOf k).length = i then 1 else 0) from fun i => by rw [cntR_succ, hits, HP.out]; simp)
          have hsN : (listOf k).length < N := by have := HNM.out; omega
          have hcell := hrow.cell hsN
          have hfr := hrow.frozen (listOf k).length
          have hbd := cntR_le p k (listOf k).length
          have hsNi : ((listOf k).length : Int) < (N : Int) := by omega
          have HR5 := Lib.hid hrow
          have HB5 := Lib.hid (HBW.out.trans (hb.mono HBW.out.size))
          clear hrow hb hu hck hsl
          generalize (listOf k).length = s at *
          generalize hcv : cntR p k s = cv at *
          have HCV := Lib.hid hcv
          clear hcv
          go_wp2_with fail
          go_roundw
          case rel =>
            refine ⟨k + 1, by omega, by go_num, ?_, HB5.out.setCell (Nat.le_refl _) _⟩
            refine (HR5.out.set s _).congr (fun i _ => ?_)
            rw [HSD.out]
            by_cases e : i = s
            · subst e; rw [HCV.out]; simp
            · simp [e, Ne.symm e]
          case measure => simp [intOf]; omega
        | false =>
          rw [hp] at hck
          have HP := Lib.hid hp
          clear hp
          go_wp2_with fail
          go_roundw
          case rel => exact ⟨k + 1, by omega, by go_num, HR.out.congr (fun i _ => by rw [cntR_succ, hits, HP.out]; simp), HBW.out⟩
          case measure => simp [intOf]; omega
      · have HK := Lib.hid (show k = n by omega)
        clear hrow hbel
        go_wp2_with fail
        go_ret2
        rw [HV.out, HC0.out]
        have hrow : wr.rowIs w3.heap.size 2 (cntList p m).length (fun i => .int .i64 (nth (cntList p m) i)) := by
          rw [cntList_len, ← HNM.out]
          refine HR.out.congr fun i hi => ?_
          have := HNM.out
          rw [cntList_nth p (by omega), HK.out, HN.out]
        have ho := own_of_row hrow (by rw [cntList_len]; unfold maxLen; omega)
        rw [cntList_len, ← HNM.out] at ho
        exact ⟨⟨_, rfl, ho.mono HB3.out.size⟩, HB3.out.trans (HBW.out.mono HB3.out.size)⟩
end Go.Proofs.YtpkflamhniidiaaDoor

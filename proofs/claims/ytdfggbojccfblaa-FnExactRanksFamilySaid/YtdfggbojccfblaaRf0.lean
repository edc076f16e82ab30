/- RanksFamily: what it answers; the groups that the model lists. -/
import Derived.Test.YtdfggbojccfblaaRcm
import Derived.Test.YtdfggbojccfblaaGof
namespace Go.Proofs.Ytdfggbojccfblaa
open Go.RowKit Go.Deep Go.Shelf
set_option linter.unusedVariables false

noncomputable def rfP (z : List Int) (g x : Nat) : Bool := tell (nth z (x ||| g) = nth z x)
noncomputable def rfOf (h l : Int) (z g : List Int) : FR := if tell (RkOk h l z) = true then (if tell (IsGrp h g) = true then ⟨h, famOf h.toNat (rfP z (bitsOf g)), 0⟩ else noFam 2) else noFam 1
theorem rf_bad {h l : Int} {z g : List Int} (k : ¬ RkOk h l z) : rfOf h l z g = noFam 1 := by unfold rfOf; rw [if_neg]; rw [tell_false k]; simp
theorem rf_out {h l : Int} {z g : List Int} (k : RkOk h l z) (q : ¬ IsGrp h g) : rfOf h l z g = noFam 2 := by unfold rfOf; rw [if_pos (tell_true k), if_neg]; rw [tell_false q]; simp
theorem rf_in {m : Nat} {l : Int} {z g : List Int} (k : RkOk (m : Int) l z) (q : IsGrp (m : Int) g) : rfOf (m : Int) l z g = ⟨(m : Nat), famOf m (rfP z (bitsOf g)), 0⟩ := by unfold rfOf; rw [if_pos (tell_true k), if_pos (tell_true q), Int.toNat_natCast]
theorem rf_small (h l : Int) (z g : List Int) : Small2 (rfOf h l z g).zss := by
  by_cases k : RkOk h l z
  · by_cases q : IsGrp h g
    · have hh := k.1.1
      obtain ⟨m, rfl⟩ : ∃ m : Nat, h = (m : Int) := ⟨h.toNat, by omega⟩
      rw [rf_in k q]
      exact famOf_small (by omega) _
    · rw [rf_out k q]; exact ⟨by simp [noFam], fun r hr => by simp [noFam] at hr⟩
  · rw [rf_bad k]; exact ⟨by simp [noFam], fun r hr => by simp [noFam] at hr⟩
theorem bit_f1 : ∀ x : Nat, x < 32 → ∀ y : Nat, y < 32 → y &&& x = y → ∀ g : Nat, g < 32 → x ||| (y ||| g) = x ||| g ∧ y &&& (x &&& (y ||| g)) = y := by decide +kernel
theorem bit_f2 : ∀ x : Nat, x < 32 → ∀ g : Nat, g < 32 → x &&& (x ||| g) = x := by decide +kernel
theorem rfP_mono {m : Nat} {l : Int} {z : List Int} (k : RkOk (m : Int) l z) {g x y : Nat} (hg : g < 2 ^ m) (hx : x < 2 ^ m) (hy : y < 2 ^ m) (hp : rfP z g y = true) (hs : y &&& x = y) : rfP z g x = true := by
  have h32 : (2 : Nat) ^ m ≤ 32 := pow5 (by have := k.1.1.2; omega)
  have e := of_tell hp
  have hl := k.len
  have hM := k.2.2.2
  have hyg : y ||| g < 2 ^ m := Nat.or_lt_two_pow hy hg
  have hxg : x ||| g < 2 ^ m := Nat.or_lt_two_pow hx hg
  have hand : x &&& (y ||| g) < 2 ^ m := Nat.lt_of_le_of_lt Nat.and_le_left hx
  obtain ⟨b1, b2⟩ := bit_f1 x (by omega) y (by omega) hs g (by omega)
  have m1 := (hM x (by omega) (y ||| g) (by omega)).2
  rw [b1] at m1
  have m2 := (hM y (by omega) (x &&& (y ||| g)) (by omega)).1 b2
  have m3 := (hM x (by omega) (x ||| g) (by omega)).1 (bit_f2 x (by omega) g (by omega))
  exact tell_true (by omega)
theorem bits_listOf : ∀ x : Nat, x < 128 → bitsOf (listOf x) = x := by decide +kernel
theorem listOf_grp0 : ∀ m : Nat, m < 6 → ∀ k : Nat, k < 32 → k < 2 ^ m → ((List.range (listOf k).length).all fun i => decide (0 ≤ nth (listOf k) i) && decide (nth (listOf k) i ≤ (m : Int) - 1) && (i == 0 || decide (nth (listOf k) (i - 1) < nth (listOf k) i))) = true := by decide +kernel
theorem listOf_grp {m k : Nat} (hm : m ≤ 5) (hk : k < 2 ^ m) : IsGrp (m : Int) (listOf k) := fun i hi => by
  have h := listOf_grp0 m (by omega) k (Nat.lt_of_lt_of_le hk (pow5 hm)) hk
  have h2 := List.all_eq_true.1 h i (List.mem_range.2 hi)
  simp only [Bool.and_eq_true, Bool.or_eq_true, decide_eq_true_eq, beq_iff_eq] at h2
  exact ⟨h2.1.1, h2.1.2, fun h0 => by rcases h2.2 with q | q; omega; exact q⟩
theorem tbl_picked (q : Nat → Bool) (n x : Nat) (hn : n ≤ 128) : tblAt (((List.range n).filter q).map listOf) (((List.range n).filter q).map listOf).length x = ((List.range n).filter q).any fun y => y &&& x == y := by
  unfold tblAt anyIn
  congr 1
  refine List.ext_getElem (by simp [bitsUpTo]) fun i h1 h2 => ?_
  have h3 : i < ((List.range n).filter q).length := by simpa using h2
  have hmem := List.mem_filter.1 (List.getElem_mem h3)
  have hlt : ((List.range n).filter q)[i] < 128 := by have := List.mem_range.1 hmem.1; omega
  simp only [bitsUpTo, List.getElem_map, List.getElem_range]
  rw [nthL_lt (by simpa using h3)]
  simp only [List.getElem_map]
  exact bits_listOf _ hlt
theorem rf_tbl {m : Nat} {l : Int} {z : List Int} (k : RkOk (m : Int) l z) {g x : Nat} (hg : g < 2 ^ m) (hx : x < 2 ^ m) : tblAt (((List.range (2 ^ m)).filter (rfP z g)).map listOf) (((List.range (2 ^ m)).filter (rfP z g)).map listOf).length x = rfP z g x := by
  have h32 : (2 : Nat) ^ m ≤ 32 := pow5 (by have := k.1.1.2; omega)
  rw [tbl_picked _ _ _ (by omega)]
  cases hp : rfP z g x with
  | true =>
    rw [List.any_eq_true]
    exact ⟨x, List.mem_filter.2 ⟨List.mem_range.2 hx, hp⟩, by simp⟩
  | false =>
    rw [Bool.eq_false_iff]
    intro f
    obtain ⟨y, hy, hyx⟩ := List.any_eq_true.1 f
    obtain ⟨h1, h2⟩ := List.mem_filter.1 hy
    have := rfP_mono k hg hx (List.mem_range.1 h1) h2 (by simpa using hyx)
    rw [hp] at this
    cases this
theorem rf_gof {m : Nat} {l : Int} {z : List Int} (k : RkOk (m : Int) l z) {g : Nat} (hg : g < 2 ^ m) : gofOf (m : Int) (((List.range (2 ^ m)).filter (rfP z g)).map listOf) = ⟨(m : Nat), famOf m (rfP z g), 0⟩ := by
  have hh := k.1.1
  have h32 : (2 : Nat) ^ m ≤ 32 := pow5 (by omega)
  rw [gofOf_yes ⟨⟨by omega, by omega⟩, by have := picked_len (rfP z g) (2 ^ m); omega, fun i hi => by
    rw [nthL_lt hi]
    obtain ⟨y, hy, e⟩ := List.mem_map.1 (List.getElem_mem hi)
    rw [← e]
    exact listOf_grp (by omega) (List.mem_range.1 (List.mem_filter.1 hy).1)⟩, Int.toNat_natCast]
  congr 1
  exact famOf_congr (by omega) fun y hy => rf_tbl k hg hy
theorem rf_gsmall (q : Nat → Bool) {n : Nat} (h : n ≤ 128) : Small2 (((List.range n).filter q).map listOf) := by
  refine ⟨by have := picked_len q n; omega, fun r hr => ?_⟩
  rw [nthL_lt hr]
  obtain ⟨y, hy, e⟩ := List.mem_map.1 (List.getElem_mem hr)
  rw [← e]
  have := listTo_len y 7
  unfold listOf
  omega

theorem of5 : ∀ x : Nat, x < 32 → ∀ n : Nat, n < 5 → (bits BinOp.and IntKind.i64 ((x : Int) / 2 ^ n) 1 == 1) = x.testBit n := by decide +kernel
theorem listTo_5 : ∀ m : Nat, m ≤ 5 → ∀ x : Nat, x < 32 → x < 2 ^ m → listTo x m = listOf x := by decide +kernel
set_option maxRecDepth 100000 in
set_option maxHeartbeats 400000 in
theorem l06Holders_any (x m : Nat) (w : World) (hm : m ≤ 5) (hx : x < 2 ^ m) : Calls Try.prog 57 #[.int .i64 (x : Nat), .int .i64 (m : Nat)] w (GivesInts w (listOf x)) := by
  obtain ⟨i0, hi, hz0, hz1, hz2⟩ := info_parts Try.infoInt64
  have hx32 : x < 32 := Nat.lt_of_lt_of_le hx (pow5 hm)
  have HLT := Lib.hid (listTo_5 m hm x hx32 hx)
  clear hx
  go_enter Try.func57, Try.ntmps57
  go_wp2_with fail
  have hown : OwnI (w.alloc (.cells #[] 2)) w.heap.size (.slice (some ⟨w.heap.size, 0, none⟩) 0 0) [] := World.ownsRow_made w #[] 0 (Nat.le_refl _) (by unfold maxLen; omega) rfl
  have hb1 := (Below.refl w.heap.size w).alloc (Nat.le_refl _) (.cells #[] 2)
  generalize (Value.slice (some ⟨w.heap.size, 0, none⟩) 0 0) = v0 at *
  go_loopw [5, 6] (fun v i wr => ∃ k : Nat, k ≤ m ∧ i = .int .i64 k ∧ OwnI wr w.heap.size v (listTo x k) ∧ Below w.heap.size w wr)
    (fun _ i _ => m - (intOf i).toNat)
  case atStart => exact ⟨0, by omega, rfl, hown, hb1⟩
  case round =>
    obtain ⟨k, hk, rfl, ho, hb⟩ := hrel
    have HO := Lib.hid ho
    have HB := Lib.hid hb
    have hszr := hb.size
    have hlk := listTo_len x k
    clear ho hb hown hb1
    by_cases hlt : k < m
    · have hi0 : (k : Int) < (m : Int) := by omega
      have hof := of5 x hx32 k (by omega)
      cases hbit : x.testBit k with
      | true =>
        have HT := Lib.hid hbit
        rw [hbit] at hof
        clear hbit
        go_wp2_with (at_builtin; refine wpList_append_own _ rfl _ _ 22 rfl w.heap.size 2 i0 (.int .i64 0) 1 8 Try.underlying22 hi hz0 hz1 hz2 rfl (by decide) _ _ _ rfl (World.ownsRow.alloc HO.out _) ⟨wr.heap.size, 0, none⟩ 1 1 [.int .i64 k] rfl rfl (cell_one_new _ _ _) (by simp [Value.oneCell']) (by unfold maxLen; omega) (by omega) (by simp; omega) ?_; intro v' w1 hown1 hgrow1 _)
        go_wp2
        go_roundw
        case rel =>
          refine ⟨k + 1, by omega, by go_num, ?_, ?_⟩
          · unfold OwnI; rw [listTo_hit HT.out, vals_snoc, List.length_append]; exact hown1
          · exact (HB.out.alloc hszr _).grown hgrow1 (by simp; omega) (fun q hq => (World.ownsRow.lt HO.out q hq).1)
        case measure => simp [intOf]; omega
      | false =>
        have HT := Lib.hid hbit
        rw [hbit] at hof
        clear hbit
        go_wp2_with fail
        go_roundw
        case rel =>
          refine ⟨k + 1, by omega, by go_num, ?_, HB.out⟩
          rw [listTo_miss HT.out]; exact HO.out
        case measure => simp [intOf]; omega
    · have hi0 : ¬ (k : Int) < (m : Int) := by omega
      have HKM := Lib.hid (show k = m by omega)
      go_wp2_with fail
      go_ret
      refine ⟨⟨_, rfl, ?_⟩, HB.out⟩
      have := HO.out
      rw [HKM.out, HLT.out] at this
      exact this
end Go.Proofs.Ytdfggbojccfblaa

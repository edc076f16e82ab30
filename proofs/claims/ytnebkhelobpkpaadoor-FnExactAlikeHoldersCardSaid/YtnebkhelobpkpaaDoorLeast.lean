/- The contracts of the program's check of families: hasParts, leastSets, ValidFamily; and the model's. -/
import Derived.Test.YtnebkhelobpkpaaDoorSet
namespace Go.Proofs.YtnebkhelobpkpaaDoor
open Go.RowKit Go.Deep
set_option linter.unusedVariables false

def nthN (l : List Nat) (i : Nat) : Nat := l.getD i 0
theorem nthN_lt {l : List Nat} {i : Nat} (h : i < l.length) : nthN l i = l[i] := by simp [nthN, List.getD, h]
def setVals (l : List Nat) : List Value := l.map fun (x : Nat) => Value.int .u64 ((x : Nat) : Int)
def AllSmall (l : List Nat) : Prop := ∀ i, i < l.length → nthN l i < 128
def PartIn (l : List Nat) : Prop := ∃ i j, i < l.length ∧ j < l.length ∧ i ≠ j ∧ nthN l i &&& nthN l j = nthN l i

/-- A slice of sets: its cells. -/
def Sets (w : World) (a : Option Addr) (l : List Nat) : Prop := l = [] ∨ ∃ b o, a = some ⟨b, o, none⟩ ∧ ∀ i, i < l.length → w.cell? ⟨b, o + i, none⟩ = some (.int .u64 ((nthN l i : Nat) : Int))

theorem Sets.of_owns {w : World} {base : Nat} {t : TypeId} {v : Value} {l : List Nat} (h : w.ownsRow base t 1 v l.length (setVals l)) : ∃ a c, v = .slice a l.length c ∧ Sets w a l ∧ l.length ≤ 9223372036854775807 := by
  rcases h.2 with ⟨hv, hn⟩ | ⟨g, cap, cur, hv, hb, hg, hnc, hcm, hcs, htake⟩
  · exact ⟨none, 0, by rw [hv, hn], .inl (List.eq_nil_of_length_eq_zero hn), by omega⟩
  · subst hv
    refine ⟨_, _, rfl, .inr ⟨g, 0, rfl, fun i hi => ?_⟩, by unfold maxLen at hcm; omega⟩
    rw [Nat.zero_add, h.cellAt i (by omega)]
    simp [setVals, hi, nthN_lt hi]

set_option maxRecDepth 100000 in
set_option maxHeartbeats 400000 in
theorem hasParts_any (a : Option Addr) (l : List Nat) (c : Nat) (w : World) (h : Sets w a l) (hs : AllSmall l) (hl : l.length ≤ 9223372036854775807) :
    Calls Tryd.prog 152 #[.slice a l.length c] w fun e w' => e = .returned (.bool (tell (PartIn l))) ∧ w = w' := by
  have HS := Lib.hid hs
  clear hs
  go_enter Tryd.func152, Tryd.ntmps152
  go_wp2_with fail
  go_loop [9] (fun i => ∃ k : Nat, k ≤ l.length ∧ i = .int .i64 k ∧ ∀ i j, i < k → j < l.length → i ≠ j → ¬ (nthN l i &&& nthN l j = nthN l i))
    (fun i => l.length - (intOf i).toNat)
  case atStart => exact ⟨0, Nat.zero_le _, rfl, fun i j hi => absurd hi (Nat.not_lt_zero _)⟩
  case round =>
    obtain ⟨k, hk, rfl, hall⟩ := hrel
    have HA := Lib.hid hall
    clear hall
    by_cases hlt : k < l.length
    · rcases h with h | ⟨b, o, rfl, hc⟩
      · rw [h] at hlt; exact absurd hlt (Nat.not_lt_zero _)
      have g1 := hc k hlt
      have hi0 : (k : Int) < (l.length : Int) := by omega
      have HC := Lib.hid hc
      clear hc
      go_wp2_with fail
      go_loop [16] (fun i => ∃ m : Nat, m ≤ l.length ∧ i = .int .i64 m ∧ ∀ j, j < m → k ≠ j → ¬ (nthN l k &&& nthN l j = nthN l k))
        (fun i => l.length - (intOf i).toNat)
      case atStart => exact ⟨0, Nat.zero_le _, rfl, fun i hi => absurd hi (Nat.not_lt_zero _)⟩
      case round =>
        obtain ⟨m, hm, rfl, hall2⟩ := hrel
        have HA2 := Lib.hid hall2
        clear hall2
        by_cases hltm : m < l.length
        · have g2 := HC.out m hltm
          have hi1 : (m : Int) < (l.length : Int) := by omega
          by_cases hkm : k = m
          · have t1 : (k != m) = false := by simp [hkm]
            have t2 : ((k : Int) != (m : Int)) = false := by simp [hkm]
            have HM := Lib.hid hkm
            clear hkm g1
            go_wp2_with fail
            go_round
            case rel =>
              refine ⟨m + 1, by omega, by go_num, fun j hj hne => ?_⟩
              by_cases e : j = m
              · exact absurd (HM.out.trans e.symm) hne
              · exact HA2.out j (by omega) hne
            case measure => simp [intOf]; omega
          · have t1 : (k != m) = true := by simp [hkm]
            have t2 : ((k : Int) != (m : Int)) = true := by simp; omega
            have HM := Lib.hid hkm
            clear hkm
            by_cases hp : nthN l k &&& nthN l m = nthN l k
            · have hpt := Lib.hid (tell_true hp)
              have HP := Lib.hid (show PartIn l from ⟨k, m, hlt, hltm, HM.out, hp⟩)
              clear hp
              go_wp2_with fail
              refine (within_any (nthN l k) (nthN l m) w (HS.out k hlt) (HS.out m hltm)).mono ?_
              rintro e w' ⟨rfl, rfl⟩
              rw [hpt.out]
              go_wp2_with fail
              go_ret
              exact ⟨ret_bool (tell_true HP.out).symm, rfl⟩
            · have hpt := Lib.hid (tell_false hp)
              have HP := Lib.hid hp
              clear hp
              go_wp2_with fail
              refine (within_any (nthN l k) (nthN l m) w (HS.out k hlt) (HS.out m hltm)).mono ?_
              rintro e w' ⟨rfl, rfl⟩
              rw [hpt.out]
              go_wp2_with fail
              go_round
              case rel =>
                refine ⟨m + 1, by omega, by go_num, fun j hj hne => ?_⟩
                by_cases e : j = m
                · subst e; exact HP.out
                · exact HA2.out j (by omega) hne
              case measure => simp [intOf]; omega
        · have hend : ∀ j, j < l.length → k ≠ j → ¬ (nthN l k &&& nthN l j = nthN l k) := fun j hj => HA2.out j (by omega)
          have HE := Lib.hid hend
          clear hend
          go_wp2_with fail
          go_round
          case rel =>
            refine ⟨k + 1, by omega, by go_num, fun i j hi hj hne => ?_⟩
            by_cases e : i = k
            · subst e; exact HE.out j hj hne
            · exact HA.out i j (by omega) hj hne
          case measure => simp [intOf]; omega
    · have hno : ¬ PartIn l := fun ⟨i, j, hi, hj, hne, hp⟩ => HA.out i j (by omega) hj hne hp
      have HN := Lib.hid hno
      clear hno
      go_wp2_with fail
      go_ret
      exact ⟨ret_bool (tell_false HN.out).symm, rfl⟩

theorem Tryd.infoSet : (Tryd.prog.info? 89).map (fun i => (i.zero, i.size, i.bytes)) = some (some (.int .u64 0), 1, 8) := by kernel_rfl

def bitsUpTo (zss : List (List Int)) (k : Nat) : List Nat := (List.range k).map fun i => bitsOf (nthL zss i)
theorem bitsUpTo_len (zss : List (List Int)) (k : Nat) : (bitsUpTo zss k).length = k := by simp [bitsUpTo]
theorem bitsUpTo_nth (zss : List (List Int)) {k i : Nat} (h : i < k) : nthN (bitsUpTo zss k) i = bitsOf (nthL zss i) := by
  rw [nthN_lt (by rw [bitsUpTo_len]; exact h)]; simp [bitsUpTo]
theorem bitsUpTo_succ (zss : List (List Int)) (k : Nat) : setVals (bitsUpTo zss (k + 1)) = setVals (bitsUpTo zss k) ++ [.int .u64 ((bitsOf (nthL zss k) : Nat) : Int)] := by
  simp [bitsUpTo, setVals, List.range_succ]

/-- What 'leastSets' gives: the groups' bits, in memory of its own, if all is well. -/
structure LeastPost (W : World) (h : Int) (zss : List (List Int)) (e : Ending) (w' : World) : Prop where
  all : ∃ v, e = .returned (.tuple #[v, .bool (tell (FamOk h zss))]) ∧ (FamOk h zss → w'.ownsRow W.heap.size 89 1 v zss.length (setVals (bitsUpTo zss zss.length)))
  below : Below W.heap.size W w'

theorem LeastPost.no {W w' : World} {h : Int} {zss : List (List Int)} (hn : ¬ FamOk h zss) (hb : Below W.heap.size W w') : LeastPost W h zss (.returned (.tuple #[.slice none 0 0, .bool false])) w' :=
  ⟨⟨_, by rw [tell_false hn], fun hf => absurd hf hn⟩, hb⟩

theorem partIn_iff {h : Int} {zss : List (List Int)} (hh : 1 ≤ h ∧ h ≤ 7) (hg : AllGrp h zss) : ¬ PartIn (bitsUpTo zss zss.length) ↔ FamOk h zss := by
  constructor
  · intro hp
    refine ⟨hh, hg, fun i hi j hj hne hpart => hp ⟨i, j, by rw [bitsUpTo_len]; exact hi, by rw [bitsUpTo_len]; exact hj, hne, ?_⟩⟩
    rw [bitsUpTo_nth _ hi, bitsUpTo_nth _ hj]; exact hpart
  · rintro ⟨_, _, hp⟩ ⟨i, j, hi, hj, hne, hpart⟩
    rw [bitsUpTo_len] at hi hj
    rw [bitsUpTo_nth _ hi, bitsUpTo_nth _ hj] at hpart
    exact hp i hi j hj hne hpart

theorem ret_pair_bool {v : Value} {a b : Bool} (h : a = b) : Ending.returned (.tuple #[v, .bool a]) = .returned (.tuple #[v, .bool b]) := by rw [h]
theorem allSmall_bits {h : Int} {zss : List (List Int)} (hg : AllGrp h zss) (hh : h ≤ 7) : AllSmall (bitsUpTo zss zss.length) := fun i hi => by
  rw [bitsUpTo_len] at hi
  rw [bitsUpTo_nth _ hi]
  exact bitsOf_lt (hg i hi).1 hh
theorem ownsRow_mono {w : World} {base base' : Nat} {t : TypeId} {size : Nat} {v : Value} {n : Nat} {xs : List Value} (h : w.ownsRow base t size v n xs) (hb : base' ≤ base) : w.ownsRow base' t size v n xs := by
  refine ⟨h.1, ?_⟩
  rcases h.2 with h2 | ⟨g, cap, cur, hv, hg, r⟩
  · exact .inl h2
  · exact .inr ⟨g, cap, cur, hv, Nat.le_trans hb hg, r⟩

set_option maxHeartbeats 1000000 in
set_option maxRecDepth 100000 in
theorem leastSets_any (h : Int) (a : Option Addr) (zss : List (List Int)) (c : Nat) (w : World) (hr : Rows2 w a zss) (hs : Small2 zss) :
    Calls Tryd.prog 124 #[.agg #[.int .i64 h, .slice a zss.length c]] w (LeastPost w h zss) := by
  by_cases hh : 1 ≤ h ∧ h ≤ 7
  · have hh1 : 1 ≤ h := hh.1
    have hh2 : h ≤ 7 := hh.2
    have t1 : decide (h < 1) = false := by simp; omega
    have t2 : decide (7 < h) = false := by simp; omega
    have HH := Lib.hid hh
    have HS := Lib.hid hs
    have hsl : zss.length ≤ 1048576 := hs.1
    have HR := Lib.hid (hr.below ((Below.refl w.heap.size w).alloc (Nat.le_refl _) (.cells #[.int .i64 h, .slice a zss.length c] 29)) (Nat.le_refl _))
    obtain ⟨i0, hi, hz0, hz1, hz2⟩ := info_parts Tryd.infoSet
    clear hh hs hr
    go_enter Tryd.func124, Tryd.ntmps124
    go_wp2_with fail
    obtain ⟨W0, hW0⟩ : ∃ W0, w.alloc (.cells #[.int .i64 h, .slice a zss.length c] 29) = W0 := ⟨_, rfl⟩
    have hb0 : Below w.heap.size w W0 := by rw [← hW0]; exact (Below.refl _ _).alloc (Nat.le_refl _) _
    have c0 : W0.cell? ⟨w.heap.size, 0, none⟩ = some (.int .i64 h) := by rw [← hW0]; simp
    have c1 : W0.cell? ⟨w.heap.size, 1, none⟩ = some (.slice a zss.length c) := by rw [← hW0]; simp
    have hz : W0.heap.size = w.heap.size + 1 := by rw [← hW0]; simp
    rw [hW0] at HR
    simp only [hW0]
    have HW := Lib.hid hW0
    have HZ := Lib.hid hz
    have HB0 := Lib.hid hb0
    have hlt0 : w.heap.size < W0.heap.size := by omega
    clear hW0 hz hb0
    go_loopw [4, 20] (fun v i wr => ∃ k : Nat, k ≤ zss.length ∧ i = .int .i64 k ∧ wr.ownsRow W0.heap.size 89 1 v k (setVals (bitsUpTo zss k)) ∧ Below W0.heap.size W0 wr ∧ ∀ j, j < k → IsGrp h (nthL zss j) ∧ (0 < j → Before (nthL zss (j - 1)) (nthL zss j)))
      (fun _ i _ => zss.length - (intOf i).toNat)
    case atStart => exact ⟨0, Nat.zero_le _, rfl, World.ownsRow_nil _ _ _ _, Below.refl _ _, fun j hj => absurd hj (Nat.not_lt_zero _)⟩
    case round =>
      obtain ⟨k, hk, rfl, hown, hbel, hall⟩ := hrel
      have HA := Lib.hid hall
      have HO := Lib.hid hown
      have HB := Lib.hid hbel
      have d0 := (hbel.cell (p := ⟨w.heap.size, 0, none⟩) hlt0).trans c0
      have d1 := (hbel.cell (p := ⟨w.heap.size, 1, none⟩) hlt0).trans c1
      have hbw := Lib.hid (HB0.out.trans (hbel.mono (by omega : w.heap.size ≤ W0.heap.size)))
      have hszr := hbel.size
      by_cases hlt : k < zss.length
      · rcases HR.out.below hbel (Nat.le_refl _) with h0 | ⟨b, o, rfl, hc⟩
        · rw [h0] at hlt; exact absurd hlt (Nat.not_lt_zero _)
        obtain ⟨ai, ci, g1, i1⟩ := hc k hlt
        obtain ⟨aj, cj, g2, i2⟩ := hc (k - 1) (by omega)
        have hi0 : (k : Int) < (zss.length : Int) := by omega
        have I1 := Lib.hid i1
        have I2 := Lib.hid i2
        have hlk := Lib.hid (show (nthL zss k).length ≤ 9223372036854775807 by have := HS.out.2 k hlt; omega)
        have hlk1 := Lib.hid (show (nthL zss (k - 1)).length ≤ 9223372036854775807 by have := HS.out.2 (k - 1) (by omega); omega)
        clear hc hbel hall i1 i2 c0 c1 hown
        by_cases hg : IsGrp h (nthL zss k)
        · have hgt := Lib.hid (show setVal h (nthL zss k) = .tuple #[.int .u64 ((bitsOf (nthL zss k) : Nat) : Int), .bool true] by rw [setVal, tell_true hg]; rfl)
          have HG := Lib.hid hg
          clear hg
          by_cases hk0 : k = 0
          · have hd : decide (0 < k) = false := by simp; omega
            have HK := Lib.hid hk0
            clear hk0 g2
            go_wp2_with fail
            refine (setOf_any ai (nthL zss k) ci h wr I1.out hh2 hlk.out).mono ?_
            rintro e w' ⟨rfl, rfl⟩
            rw [hgt.out]
            go_wp2_with (at_builtin; refine wpList_append_own _ rfl _ _ 175 rfl W0.heap.size 89 i0 (.int .u64 0) 1 8 Tryd.underlying175 hi hz0 hz1 hz2 rfl (by decide) _ _ _ rfl (HO.out.alloc _) ⟨wr.heap.size, 0, none⟩ 1 1 [.int .u64 ((bitsOf (nthL zss k) : Nat) : Int)] rfl rfl (cell_one_new _ _ _) (by simp [Value.oneCell']) (by unfold maxLen; omega) (by omega) (by simp; omega) ?_; intro v' w1 hown1 hgrow1 _)
            go_wp2
            go_roundw
            case rel =>
              refine ⟨k + 1, by omega, by go_num, by rw [bitsUpTo_succ]; exact hown1, ?_, fun j hj => ?_⟩
              · exact (HB.out.alloc hszr _).grown hgrow1 (by simp; omega) (fun q hq => by have := (HO.out.lt q hq).1; exact this)
              · by_cases e : j = k
                · subst e; exact ⟨HG.out, fun h0 => by have := HK.out; omega⟩
                · exact HA.out j (by omega)
            case measure => simp [intOf]; omega
          · have hd : 0 < k := by omega
            have hd1 : (1 : Int) ≤ (k : Int) := by omega
            clear hk0
            by_cases hord : Before (nthL zss (k - 1)) (nthL zss k)
            · have t3 : decide (0 ≤ lexCmp (nthL zss (k - 1)) (nthL zss k)) = false := by unfold Before at hord; simp; omega
              have HOR := Lib.hid hord
              clear hord
              go_wp2_with fail
              refine (setOf_any ai (nthL zss k) ci h wr I1.out hh2 hlk.out).mono ?_
              rintro e w' ⟨rfl, rfl⟩
              rw [hgt.out]
              go_wp2_with fail
              refine (slicesCompare_any aj ai (nthL zss (k - 1)) (nthL zss k) cj ci wr I2.out I1.out hlk1.out hlk.out).mono ?_
              rintro e w' ⟨rfl, rfl⟩
              go_wp2_with (at_builtin; refine wpList_append_own _ rfl _ _ 175 rfl W0.heap.size 89 i0 (.int .u64 0) 1 8 Tryd.underlying175 hi hz0 hz1 hz2 rfl (by decide) _ _ _ rfl (HO.out.alloc _) ⟨wr.heap.size, 0, none⟩ 1 1 [.int .u64 ((bitsOf (nthL zss k) : Nat) : Int)] rfl rfl (cell_one_new _ _ _) (by simp [Value.oneCell']) (by unfold maxLen; omega) (by omega) (by simp; omega) ?_; intro v' w1 hown1 hgrow1 _)
              go_wp2
              go_roundw
              case rel =>
                refine ⟨k + 1, by omega, by go_num, by rw [bitsUpTo_succ]; exact hown1, ?_, fun j hj => ?_⟩
                · exact (HB.out.alloc hszr _).grown hgrow1 (by simp; omega) (fun q hq => by have := (HO.out.lt q hq).1; exact this)
                · by_cases e : j = k
                  · subst e; exact ⟨HG.out, fun _ => HOR.out⟩
                  · exact HA.out j (by omega)
              case measure => simp [intOf]; omega
            · have t3 : decide (0 ≤ lexCmp (nthL zss (k - 1)) (nthL zss k)) = true := by unfold Before at hord; simp; omega
              have hno : ¬ FamOk h zss := fun hf => hord ((hf.2.1 k hlt).2 hd)
              have HN := Lib.hid hno
              clear hord hno
              go_wp2_with fail
              refine (setOf_any ai (nthL zss k) ci h wr I1.out hh2 hlk.out).mono ?_
              rintro e w' ⟨rfl, rfl⟩
              rw [hgt.out]
              go_wp2_with fail
              refine (slicesCompare_any aj ai (nthL zss (k - 1)) (nthL zss k) cj ci wr I2.out I1.out hlk1.out hlk.out).mono ?_
              rintro e w' ⟨rfl, rfl⟩
              go_wp2_with fail
              go_ret2
              exact LeastPost.no HN.out hbw.out
        · have hgt := Lib.hid (show setVal h (nthL zss k) = .tuple #[.int .u64 0, .bool false] by rw [setVal, tell_false hg]; rfl)
          have hno : ¬ FamOk h zss := fun hf => hg (hf.2.1 k hlt).1
          have HN := Lib.hid hno
          clear hg hno g2
          go_wp2_with fail
          refine (setOf_any ai (nthL zss k) ci h wr I1.out hh2 hlk.out).mono ?_
          rintro e w' ⟨rfl, rfl⟩
          rw [hgt.out]
          go_wp2_with fail
          go_ret2
          exact LeastPost.no HN.out hbw.out
      · have HE := Lib.hid (show k = zss.length by omega)
        have HAG := Lib.hid (show AllGrp h zss from fun j hj => hall j (by omega))
        rw [HE.out] at hown
        obtain ⟨a2, c2, rfl, hsets, hlen⟩ := Sets.of_owns (l := bitsUpTo zss zss.length) (by rw [bitsUpTo_len]; exact hown)
        have HSE := Lib.hid hsets
        have HOW := Lib.hid hown
        clear hsets hown hall hbel c0 c1
        go_wp2_with fail
        refine (hasParts_any a2 (bitsUpTo zss zss.length) c2 wr HSE.out (allSmall_bits HAG.out hh2) hlen).mono ?_
        rintro e w' ⟨rfl, rfl⟩
        go_wp2_with fail
        go_ret2
        have hw0 : w.heap.size ≤ W0.heap.size := by omega
        exact ⟨⟨_, ret_pair_bool (by rw [tell_not, tell_congr (partIn_iff HH.out HAG.out)]), fun _ => ownsRow_mono HOW.out hw0⟩, hbw.out⟩
  · have hno : ¬ FamOk h zss := fun hf => hh hf.1
    have HN := Lib.hid hno
    clear hno hr
    by_cases h1 : h < 1
    · have t1 : decide (h < 1) = true := by simp; omega
      go_enter Tryd.func124, Tryd.ntmps124
      go_wp2_with fail
      go_ret2
      exact LeastPost.no HN.out ((Below.refl _ _).alloc (Nat.le_refl _) _)
    · have t1 : decide (h < 1) = false := by simp; omega
      have t2 : decide (7 < h) = true := by simp; omega
      go_enter Tryd.func124, Tryd.ntmps124
      go_wp2_with fail
      go_ret2
      exact LeastPost.no HN.out ((Below.refl _ _).alloc (Nat.le_refl _) _)

end Go.Proofs.YtnebkhelobpkpaaDoor

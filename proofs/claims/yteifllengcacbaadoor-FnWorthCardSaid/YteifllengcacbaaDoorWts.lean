/- The model's families by weights: l01Weighted, ThresholdFamily, WeightedFamily. -/
import Derived.Test.YteifllengcacbaaDoorFrom
namespace Go.Proofs.YteifllengcacbaaDoor
open Go.RowKit Go.Deep Go.Shelf
set_option linter.unusedVariables false

/-- The block of an answer that is not yet there. -/
def Boxes1 (W : World) (B : Nat) : Prop := W.heap[B]? = some (.cells #[.int .i64 0, .slice none 0 0] 26 (0, 0))
theorem Boxes1.lt {W : World} {B : Nat} (h : Boxes1 W B) : B < W.heap.size := (Array.getElem?_eq_some_iff.1 h).1
theorem Boxes1.step {W W' : World} {B : Nat} (h : Boxes1 W B) (hb : Below W.heap.size W W') : Boxes1 W' B := (hb.block B h.lt).trans h
theorem Boxes1.c0 {W : World} {B : Nat} (h : Boxes1 W B) : W.cell? ⟨B, 0, none⟩ = some (.int .i64 0) := by simp [World.cell?, show W.heap[B]? = _ from h]
theorem Boxes1.c1 {W : World} {B : Nat} (h : Boxes1 W B) : W.cell? ⟨B, 1, none⟩ = some (.slice none 0 0) := by simp [World.cell?, show W.heap[B]? = _ from h]
theorem Boxes1.f {W : World} {B : Nat} (h : Boxes1 W B) (i : Nat) : W.frozen? ⟨B, i, none⟩ = false := by simp [World.frozen?, show W.heap[B]? = _ from h]

/-- A family and a code, as an answer. -/
structure FR where
  h : Int
  zss : List (List Int)
  code : Int
/-- What gives such an answer, to be read. -/
structure GivesFC (W : World) (r : FR) (e : Ending) (w' : World) : Prop where
  val : ∃ a c, e = .returned (.tuple #[.agg #[.int .i64 r.h, .slice a r.zss.length c], .int .i64 r.code]) ∧ RowsF w' W.heap.size a r.zss
  below : Below W.heap.size W w'
/-- What gives such an answer in memory of its own. -/
structure GivesFO (W : World) (r : FR) (e : Ending) (w' : World) : Prop where
  val : ∃ v us, e = .returned (.tuple #[.agg #[.int .i64 r.h, v], .int .i64 r.code]) ∧ w'.ownsRow W.heap.size 28 1 v r.zss.length us ∧ RowsOwn w' W.heap.size us r.zss
  below : Below W.heap.size W w'
def noFam (code : Int) : FR := ⟨0, [], code⟩
theorem GivesFC.no {W w' : World} (code : Int) (hb : Below W.heap.size W w') : GivesFC W (noFam code) (.returned (.tuple #[.agg #[.int .i64 0, .slice none 0 0], .int .i64 code])) w' :=
  ⟨⟨none, 0, rfl, .inl rfl⟩, hb⟩
theorem GivesFO.no {W w' : World} (code : Int) (hb : Below W.heap.size W w') : GivesFO W (noFam code) (.returned (.tuple #[.agg #[.int .i64 0, .slice none 0 0], .int .i64 code])) w' :=
  ⟨⟨.slice none 0 0, [], rfl, World.ownsRow_nil _ _ _ _, RowsOwn.nil _ _⟩, hb⟩

/-- The weight of a group, of its first holders. -/
def wsum (zs : List Int) (x : Nat) : Nat → Int
  | 0 => 0
  | j + 1 => wsum zs x j + if x.testBit j = true then nth zs j else 0
theorem wsum_hit {zs : List Int} {x j : Nat} (h : x.testBit j = true) : wsum zs x (j + 1) = wsum zs x j + nth zs j := by rw [wsum, if_pos h]
theorem wsum_miss {zs : List Int} {x j : Nat} (h : x.testBit j = false) : wsum zs x (j + 1) = wsum zs x j := by rw [wsum, if_neg (by simp [h]), Int.add_zero]
theorem wsum_bd {zs : List Int} (x : Nat) (hw : ∀ i, i < zs.length → 0 ≤ nth zs i ∧ nth zs i ≤ 1000) : ∀ j, j ≤ zs.length → 0 ≤ wsum zs x j ∧ wsum zs x j ≤ 1000 * j
  | 0, _ => by simp [wsum]
  | j + 1, hj => by
    have h1 := wsum_bd x hw j (by omega)
    have h2 := hw j (by omega)
    rw [wsum]
    split <;> omega
def heavy (zs : List Int) (quota : Int) (x : Nat) : Bool := decide (quota ≤ wsum zs x zs.length)
def bools (p : Nat → Bool) (k : Nat) : List Value := (List.range k).map fun x => .bool (p x)
theorem bools_len (p : Nat → Bool) (k : Nat) : (bools p k).length = k := by simp [bools]
theorem bools_succ (p : Nat → Bool) (k : Nat) : bools p (k + 1) = bools p k ++ [.bool (p k)] := by simp [bools, List.range_succ]
theorem Tryd.infoBool : (Tryd.prog.info? 4).map (fun i => (i.zero, i.size, i.bytes)) = some (some (.bool false), 1, 1) := by kernel_rfl
theorem Bools.of_row {W : World} {base g cap n : Nat} {p : Nat → Bool} (h : W.ownsRow base 4 1 (.slice (some ⟨g, 0, none⟩) n cap) n (bools p n)) : Bools W (some ⟨g, 0, none⟩) n p :=
  ⟨g, 0, rfl, fun i hi => by rw [Nat.zero_add, World.ownsRow.cellAt h i (by omega)]; simp [bools, hi]⟩
theorem wrap64_two {n : Nat} (h : n ≤ 7) : wrap64 ((2 : Int) ^ n) = ((2 ^ n : Nat) : Int) := by
  have h1 : (2 : Nat) ^ n ≤ 2 ^ 7 := Nat.pow_le_pow_right (by omega) h
  have e : (2 : Int) ^ n = ((2 ^ n : Nat) : Int) := by simp
  rw [e]
  generalize (2 : Nat) ^ n = m at *
  unfold wrap64
  omega

set_option maxHeartbeats 1000000 in
set_option maxRecDepth 100000 in
theorem l01Weighted_any (a : Option Addr) (zs : List Int) (c : Nat) (quota : Int) (w : World) (hr : Ints w a zs) (h1 : 1 ≤ zs.length) (h7 : zs.length ≤ 7) (hw : ∀ i, i < zs.length → 0 ≤ nth zs i ∧ nth zs i ≤ 1000) :
    Calls Tryd.prog 79 #[.slice a zs.length c, .int .i64 quota] w (GivesFamR w (zs.length : Nat) (famOf zs.length (heavy zs quota))) := by
  obtain ⟨n, hn⟩ : ∃ n, 2 ^ zs.length = n := ⟨_, rfl⟩
  have hn128 : n ≤ 128 := by rw [← hn]; exact Nat.pow_le_pow_right (by decide) h7
  have hn1 : 1 ≤ n := by rw [← hn]; exact Nat.one_le_two_pow
  have hpow : wrap64 ((2 : Int) ^ zs.length) = (n : Int) := by rw [wrap64_two h7, hn]
  have HN := Lib.hid hn
  have HW := Lib.hid hw
  clear hn hw
  obtain ⟨i0, hi, hz0, hz1, hz2⟩ := info_parts Tryd.infoBool
  go_enter Tryd.func79, Tryd.ntmps79
  go_wp2_with fail
  have hB0 := ((Below.refl w.heap.size w).alloc (Nat.le_refl _) (.cells #[.int .i64 0, .slice none 0 0] 26)).alloc (by simp) (.cells #[] 4)
  have hF0 : ((w.alloc (.cells #[.int .i64 0, .slice none 0 0] 26)).alloc (.cells #[] 4)).heap[w.heap.size]? = some (.cells #[.int .i64 0, .slice none 0 0] 26) := (Below.heap_alloc _ _ _ (by simp)).trans (World.alloc_heap_new w _)
  have hR0 : ((w.alloc (.cells #[.int .i64 0, .slice none 0 0] 26)).alloc (.cells #[] 4)).ownsRow (w.heap.size + 1) 4 1 (.slice (some ⟨w.heap.size + 1, 0, none⟩) 0 0) 0 [] := by
    have := World.ownsRow_made (w.alloc (.cells #[.int .i64 0, .slice none 0 0] 26)) #[] 0 (e := 4) (size := 1) (Nat.le_refl _) (by unfold maxLen; omega) rfl
    simpa using this
  generalize ((w.alloc (.cells #[.int .i64 0, .slice none 0 0] 26)).alloc (.cells #[] 4)) = w1 at *
  go_loopw [5, 6] (fun v i wr => ∃ (k g cap : Nat), k ≤ n ∧ i = .int .i64 k ∧ v = .slice (some ⟨g, 0, none⟩) k cap ∧ wr.ownsRow (w.heap.size + 1) 4 1 (.slice (some ⟨g, 0, none⟩) k cap) k (bools (heavy zs quota) k) ∧ Below w.heap.size w wr ∧ wr.heap[w.heap.size]? = some (.cells #[.int .i64 0, .slice none 0 0] 26))
    (fun _ i _ => n - (intOf i).toNat)
  case atStart => exact ⟨0, _, _, by omega, rfl, rfl, hR0, hB0, hF0⟩
  case round =>
    obtain ⟨k, g, cap, hk, rfl, rfl, hrow, hbel, hfam⟩ := hrel
    clear hB0 hF0 hR0
    have HR := Lib.hid hrow
    have HB := Lib.hid hbel
    have HF := Lib.hid hfam
    have hszr := (Array.getElem?_eq_some_iff.1 hfam).1
    have HA := Lib.hid (hr.below hbel (Nat.le_refl _))
    clear hrow hbel hfam
    by_cases hlt : k < n
    · obtain ⟨wo, rfl⟩ : ∃ wo : World, wo = wr := ⟨_, rfl⟩
      have hki : (k : Int) < (n : Int) := by omega
      go_wp2_with fail
      go_loopw [7, 8] (fun s i wr2 => ∃ j : Nat, j ≤ zs.length ∧ i = .int .i64 j ∧ s = .int .i64 (wsum zs k j) ∧ wr2 = wo)
        (fun _ i _ => zs.length - (intOf i).toNat)
      case atStart => exact ⟨0, by omega, rfl, rfl, rfl⟩
      case round =>
        obtain ⟨j, hj, rfl, rfl, rfl⟩ := hrel
        by_cases hjh : j < zs.length
        · have hof := of_fact k (by omega) j (by omega)
          have hbd := wsum_bd k HW.out j (by omega)
          have hb0 : 0 ≤ wsum zs k j := hbd.1
          have hb1 : wsum zs k j ≤ 7000 := by omega
          have hw0 : 0 ≤ nth zs j := (HW.out j hjh).1
          have hw1 : nth zs j ≤ 1000 := (HW.out j hjh).2
          clear hbd
          cases hbit : k.testBit j with
          | true =>
            have HS := Lib.hid (wsum_hit (zs := zs) hbit)
            rw [hbit] at hof
            clear hbit
            rcases HA.out with h | ⟨b, o, rfl, hc⟩
            · rw [h] at hjh; exact absurd hjh (Nat.not_lt_zero _)
            have hcell := hc j hjh
            clear hc
            go_wp2_with fail
            go_roundw
            case rel => exact ⟨j + 1, by omega, by go_num, by rw [HS.out], by simp⟩
            case measure => simp [intOf]; omega
          | false =>
            have HS := Lib.hid (wsum_miss (zs := zs) hbit)
            rw [hbit] at hof
            clear hbit
            go_wp2_with fail
            go_roundw
            case rel => exact ⟨j + 1, by omega, by go_num, by rw [HS.out], by simp⟩
            case measure => simp [intOf]; omega
        · have HJ := Lib.hid (show j = zs.length by omega)
          have HV := Lib.hid (show decide (quota ≤ wsum zs k j) = heavy zs quota k by unfold heavy; rw [← HJ.out])
          generalize wsum zs k j = s at *
          go_wp2_with (at_builtin; refine wpList_append_own _ rfl _ _ 96 rfl (w.heap.size + 1) 4 i0 (.bool false) 1 1 Tryd.underlying96 hi hz0 hz1 hz2 rfl (by decide) _ _ _ rfl (World.ownsRow.alloc HR.out _) ⟨wr.heap.size, 0, none⟩ 1 1 [.bool (decide (quota ≤ s))] rfl rfl (cell_one_new _ _ _) (by simp [Value.oneCell']) (by unfold maxLen; omega) (by omega) (by simp; omega) ?_; intro v' w1 hown2 hgrow2 _; obtain ⟨g', cap', rfl⟩ := ownsRow_succ hown2; have HO2 := Lib.hid hown2; have HG2 := Lib.hid hgrow2; clear hown2 hgrow2)
          go_roundw
          case rel =>
            refine ⟨k + 1, g', cap', by omega, by go_num, rfl, ?_, ?_, ?_⟩
            · rw [bools_succ, ← HV.out]; exact HO2.out
            · exact (HB.out.alloc (Nat.le_of_lt hszr) _).grown HG2.out (by simp; omega) (fun q hq => by have := (HR.out.lt q hq).1; omega)
            · refine (HG2.out.block _ (by simp; omega) (fun e => ?_)).trans ((Below.heap_alloc _ _ _ (by omega)).trans HF.out)
              have := (HR.out.lt _ e.symm).1; omega
          case measure => simp [intOf]; omega
    · have HK := Lib.hid (show k = n by omega)
      have ht : Bools wr (some ⟨g, 0, none⟩) k (heavy zs quota) := Bools.of_row HR.out
      rw [HK.out] at ht
      have HT := Lib.hid ht
      clear ht
      go_wp2_with fail
      rw [HK.out]
      refine (l01From_any zs.length n cap _ (heavy zs quota) wr h1 h7 HN.out.symm HT.out).mono ?_
      rintro e w' ⟨⟨a2, c2, rfl, hrows, hlens⟩, hb⟩
      have hf' := (hb.block w.heap.size hszr).trans HF.out
      have c0 : w'.cell? ⟨w.heap.size, 0, none⟩ = some (.int .i64 0) := by simp [World.cell?, hf']
      have c1 : w'.cell? ⟨w.heap.size, 1, none⟩ = some (.slice none 0 0) := by simp [World.cell?, hf']
      have f0 : w'.frozen? ⟨w.heap.size, 0, none⟩ = false := by simp [World.frozen?, hf']
      have f1 : w'.frozen? ⟨w.heap.size, 1, none⟩ = false := by simp [World.frozen?, hf']
      have HRR := Lib.hid hrows
      have HLL := Lib.hid hlens
      have HB2 := Lib.hid (HB.out.trans (hb.mono (Nat.le_of_lt hszr)))
      clear hrows hlens hb hf'
      go_wp2_with fail
      refine bodyPost_ret (v := .agg #[.int .i64 (zs.length : Nat), .slice a2 (famOf zs.length (heavy zs quota)).length c2]) (by simp [results, Tryd.results79, go_sem, c0, c1]) rfl ⟨⟨a2, c2, rfl, ?_, HLL.out⟩, ?_⟩
      · exact ((HRR.out.set hszr 0 _).set hszr 1 _).mono (Nat.le_of_lt hszr)
      · exact (HB2.out.setCell (by simp) _).setCell (by simp) _
end Go.Proofs.YteifllengcacbaaDoor

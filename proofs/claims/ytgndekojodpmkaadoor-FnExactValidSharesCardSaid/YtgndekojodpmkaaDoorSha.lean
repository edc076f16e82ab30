/- Shares: rows of two cells; the law's eqShareS, markShareS, heldShareS. -/
import Derived.Test.YtgndekojodpmkaaDoorOw
import Derived.Deep.RegionHeld3
namespace Go.Proofs.YtgndekojodpmkaaDoor
open Go.RowKit Go.Deep
set_option linter.unusedVariables false

theorem Tryd.infoShare : (Tryd.prog.info? 91).map (fun i => (i.zero, i.size, i.bytes)) = some (some (.agg #[.int .i64 0, .int .i64 0]), 2, 16) := by kernel_rfl
/-- n shares that a call has made, as a flat list. -/
def OwnSh (w : World) (base : Nat) (v : Value) (n : Nat) (zs : List Int) : Prop := w.ownsRow base 91 2 v n (vals zs)
theorem OwnSh.len {w : World} {base : Nat} {v : Value} {n : Nat} {zs : List Int} (h : OwnSh w base v n zs) : zs.length = n * 2 := by have := h.1; simpa [vals] using this
theorem OwnSh.step {w w' : World} {base : Nat} {v : Value} {n : Nat} {zs : List Int} (h : OwnSh w base v n zs) (hb : Below w.heap.size w w') : OwnSh w' base v n zs := row_step h hb
theorem OwnSh.mono {w : World} {base base' : Nat} {v : Value} {n : Nat} {zs : List Int} (h : OwnSh w base v n zs) (hb : base' ≤ base) : OwnSh w base' v n zs := ownsRow_mono h hb
theorem OwnSh.form {w : World} {base : Nat} {v : Value} {n : Nat} {zs : List Int} (h : OwnSh w base v n zs) : ∃ a c, v = .slice a n c := rowForm h
theorem OwnSh.lt {w : World} {base b : Nat} {v : Value} {n : Nat} {zs : List Int} (h : OwnSh w base v n zs) (hb : v.ownBlock = some b) : base ≤ b ∧ b < w.heap.size := World.ownsRow.lt h b hb
theorem OwnSh.ints {w : World} {base : Nat} {v : Value} {n : Nat} {zs : List Int} (h : OwnSh w base v n zs) : ∃ a c, v = .slice a n c ∧ Ints w a zs ∧ n ≤ 9223372036854775807 := by
  have hl := h.len
  rcases h.2 with ⟨hv, hn⟩ | ⟨g, cap, cur, hv, hb, hg, hnc, hcm, hcs, htake⟩
  · exact ⟨none, 0, by rw [hv, hn], .inl (List.eq_nil_of_length_eq_zero (by omega)), by omega⟩
  · subst hv
    refine ⟨_, _, rfl, .inr ⟨g, 0, rfl, fun i hi => ?_⟩, by unfold maxLen at hcm; omega⟩
    rw [Nat.zero_add, World.ownsRow.cellAt h i (by omega)]
    simp [vals, hi, nth_lt hi]
theorem Ints_of_sh {w : World} {base n c : Nat} {a : Option Addr} {zs : List Int} (h : OwnSh w base (.slice a n c) n zs) : Ints w a zs := by
  obtain ⟨a', c', e, hI, _⟩ := h.ints
  cases e
  exact hI
theorem Touch.ownSh {lo hi : Nat} {w w' : World} (h : Touch lo hi w w') {base : Nat} {v : Value} {n : Nat} {zs : List Int} (k : OwnSh w base v n zs) (hb : hi ≤ base) : OwnSh w' base v n zs := by
  refine ⟨k.1, ?_⟩
  rcases k.2 with h2 | ⟨g, cap, cur, hv, hg, hh, r⟩
  · exact .inl h2
  · exact .inr ⟨g, cap, cur, hv, hg, by rw [h.block g (Array.getElem?_eq_some_iff.1 hh).1 (.inr (by omega))]; exact hh, r⟩
structure GivesShCode (W : World) (n : Nat) (zs : List Int) (code : Int) (e : Ending) (w' : World) : Prop where
  val : ∃ v, e = .returned (.tuple #[v, .int .i64 code]) ∧ OwnSh w' W.heap.size v n zs
  below : Below W.heap.size W w'

set_option maxRecDepth 100000 in
theorem eqShare_same (x y : Int) (w : World) : Calls Tryd.prog 60 #[.agg #[.int .i64 x, .int .i64 y], .agg #[.int .i64 x, .int .i64 y]] w fun e w' => e = .returned (.bool true) ∧ Below w.heap.size w w' := by
  have HB1 := Lib.hid (((Below.refl w.heap.size w).alloc (Nat.le_refl _) (.cells #[.int .i64 x, .int .i64 y] 91)).alloc (by simp) (.cells #[.int .i64 x, .int .i64 y] 91))
  go_enter Tryd.func60, Tryd.ntmps60
  go_wp2
  go_ret
  exact ⟨rfl, HB1.out⟩

set_option maxRecDepth 100000 in
set_option maxHeartbeats 400000 in
theorem eqShareS_same (a b : Option Addr) (n : Nat) (zs : List Int) (ca cb : Nat) (w : World) (ha : Ints w a zs) (hb : Ints w b zs) (hz : zs.length = n * 2) (hl : n ≤ 9223372036854775807) :
    Calls Tryd.prog 22 #[.slice a n ca, .slice b n cb] w fun e w' => e = .returned (.bool true) ∧ Below w.heap.size w w' := by
  have HA := Lib.hid ha
  have HB := Lib.hid hb
  have HZ := Lib.hid hz
  clear ha hb hz
  go_enter Tryd.func22, Tryd.ntmps22
  go_wp2
  go_loopw [5] (fun i wr => ∃ k : Nat, k ≤ n ∧ i = .int .i64 k ∧ Below w.heap.size w wr)
    (fun i _ => n - (intOf i).toNat)
  case atStart => exact ⟨0, Nat.zero_le _, rfl, Below.refl _ _⟩
  case round =>
    obtain ⟨k, hk, rfl, hb⟩ := hrel
    have HBW := Lib.hid hb
    clear hb
    by_cases hlt : k < n
    · have hk1 : k * 2 < zs.length := by have := HZ.out; omega
      have hk2 : k * 2 + 1 < zs.length := by have := HZ.out; omega
      rcases HA.out.below HBW.out (Nat.le_refl _) with h | ⟨b1, o1, rfl, hc1⟩
      · rw [h] at hk1; exact absurd hk1 (Nat.not_lt_zero _)
      rcases HB.out.below HBW.out (Nat.le_refl _) with h | ⟨b2, o2, rfl, hc2⟩
      · rw [h] at hk1; exact absurd hk1 (Nat.not_lt_zero _)
      have g1 := hc1 (k * 2) hk1
      have g2 := hc1 (k * 2 + 1) hk2
      have g3 := hc2 (k * 2) hk1
      have g4 := hc2 (k * 2 + 1) hk2
      rw [← Nat.add_assoc] at g2 g4
      generalize nth zs (k * 2) = x at *
      generalize nth zs (k * 2 + 1) = y at *
      have hi : ((k : Int)) < (n : Int) := by omega
      obtain ⟨wo, hwo⟩ : ∃ wo : World, wo = wr := ⟨_, rfl⟩
      subst hwo
      have MK := Lib.hid (show ∀ w' : World, Below wo.heap.size wo w' → Below wo.heap.size wo w' ∧ w'.cell? ⟨b1, o1 + k * 2, none⟩ = some (.int .i64 x) ∧ w'.cell? ⟨b1, o1 + k * 2 + 1, none⟩ = some (.int .i64 y) ∧ w'.cell? ⟨b2, o2 + k * 2, none⟩ = some (.int .i64 x) ∧ w'.cell? ⟨b2, o2 + k * 2 + 1, none⟩ = some (.int .i64 y) from fun w' h => ⟨h, cell_step h g1, cell_step h g2, cell_step h g3, cell_step h g4⟩)
      clear hc1 hc2
      go_wp2_with fail
      go_region_held3 (fun w' => Below wo.heap.size wo w' ∧ w'.cell? ⟨b1, o1 + k * 2, none⟩ = some (.int .i64 x) ∧ w'.cell? ⟨b1, o1 + k * 2 + 1, none⟩ = some (.int .i64 y) ∧ w'.cell? ⟨b2, o2 + k * 2, none⟩ = some (.int .i64 x) ∧ w'.cell? ⟨b2, o2 + k * 2 + 1, none⟩ = some (.int .i64 y)) (first | exact MK.out _ (drew_step _) | exact MK.out _ (chain (‹Below wo.heap.size wo _ ∧ _›).1 hb) | fail) ((go_at_call 60; have KK := (‹Below wo.heap.size wo _ ∧ _›).1; refine (eqShare_same x y _).mono ?_; rintro e wf ⟨rfl, hb⟩))
      all_goals (
        have KF := Lib.hid (chain HBW.out (‹Below wo.heap.size wo _ ∧ _›).1)
        go_wp2
        go_roundw
        case rel => exact ⟨k + 1, by omega, by go_num, KF.out⟩
        case measure => simp [intOf]; omega)
    · go_wp2
      go_ret
      exact ⟨rfl, HBW.out⟩

/-- What marks shares of a call's own. -/
structure MarkedSh (W : World) (base : Nat) (v : Value) (n : Nat) (k : Int) (e : Ending) (w' : World) : Prop where
  val : e = .returned (.int .i64 (k + ((n * 2 : Nat) : Int)))
  own : OwnSh w' base v n (marks k (n * 2))
  size : w'.heap.size = W.heap.size
  grown : W.grownBy w' v.ownBlock
set_option maxRecDepth 100000 in
set_option maxHeartbeats 1000000 in
theorem markShareS_any (v : Value) (n : Nat) (zs : List Int) (base : Nat) (k : Int) (w : World) (ho : OwnSh w base v n zs) (hk0 : 0 ≤ k) (hk1 : k ≤ 1152921504606846) (hl : n ≤ 1152921504606846) :
    Calls Tryd.prog 31 #[v, .int .i64 k] w (MarkedSh w base v n k) := by
  have hzl := ho.len
  rcases ho.2 with ⟨rfl, hn⟩ | ⟨g, cap, cur, rfl, hbg, _⟩
  · subst hn
    clear ho
    go_enter Tryd.func31, Tryd.ntmps31
    go_wp2_with fail
    go_rounds 1
    go_ret
    exact ⟨by simp, World.ownsRow_nil _ _ _ _, rfl, World.grownBy.refl _ _⟩
  · have HO := Lib.hid ho
    clear ho
    go_enter Tryd.func31, Tryd.ntmps31
    go_wp2_with fail
    go_loopw [1, 5] (fun q i wr => ∃ j : Nat, j ≤ n ∧ i = .int .i64 j ∧ q = .int .i64 (k + ((j * 2 : Nat) : Int)) ∧ wr.ownsRow base 91 2 (.slice (some ⟨g, 0, none⟩) n cap) n (vals (marks k (j * 2) ++ zs.drop (j * 2))) ∧ wr.heap.size = w.heap.size ∧ w.grownBy wr (some g))
      (fun _ i _ => n - (intOf i).toNat)
    case atStart => exact ⟨0, Nat.zero_le _, rfl, by simp, by have h1 := HO.out; unfold OwnSh at h1; simpa [marks] using h1, rfl, World.grownBy.refl _ _⟩
    case round =>
      obtain ⟨j, hj, rfl, rfl, hown, hsz, hgr⟩ := hrel
      by_cases hlt : j < n
      · have hlen : (vals (marks k (j * 2) ++ zs.drop (j * 2))).length = zs.length := by simp [vals, marks_len]; omega
        have hc0 := hown.cellAt (j * 2) (by omega)
        rw [List.getElem?_eq_getElem (by rw [hlen]; omega)] at hc0
        have hfr := hown.frozenAt (j * 2)
        have hi0 : (j : Int) < (n : Int) := by omega
        obtain ⟨hst1, hst2⟩ := hown.stored (j * 2) (.int .i64 (k + ((j * 2 : Nat) : Int)))
        rw [half_step k zs (show j * 2 < zs.length by omega)] at hst1
        have hlen1 : (vals (marks k (j * 2 + 1) ++ zs.drop (j * 2 + 1))).length = zs.length := by simp [vals, marks_len]; omega
        have hc1 := hst1.cellAt (j * 2 + 1) (by omega)
        rw [List.getElem?_eq_getElem (by rw [hlen1]; omega)] at hc1
        have hfr1 := hst1.frozenAt (j * 2 + 1)
        obtain ⟨hst3, hst4⟩ := hst1.stored (j * 2 + 1) (.int .i64 (k + ((j * 2 + 1 : Nat) : Int)))
        rw [half_step k zs (show j * 2 + 1 < zs.length by omega)] at hst3
        have hkk : k + ((j * 2 : Nat) : Int) + 1 = k + ((j * 2 + 1 : Nat) : Int) := by omega
        have hkk2 : k + ((j * 2 + 1 : Nat) : Int) + 1 = k + (((j + 1) * 2 : Nat) : Int) := by omega
        have H1 := Lib.hid (show ((w.heap.size, wr.heap.size) = (w.heap.size, wr.heap.size)) from rfl)
        have HS3 := Lib.hid hst3
        have H2 := Lib.hid (show w.grownBy ((wr.setCell ⟨g, j * 2, none⟩ (.int .i64 (k + ((j * 2 : Nat) : Int)))).setCell ⟨g, j * 2 + 1, none⟩ (.int .i64 (k + ((j * 2 + 1 : Nat) : Int)))) (some g) from
          ⟨hst4.os.trans (hst2.os.trans hgr.os), hst4.tape.trans (hst2.tape.trans hgr.tape), hst4.output.trans (hst2.output.trans hgr.output), Nat.le_trans hgr.size (Nat.le_trans hst2.size hst4.size), fun q hq hne => (hst4.block q (Nat.lt_of_lt_of_le hq (Nat.le_trans hgr.size hst2.size)) hne).trans ((hst2.block q (Nat.lt_of_lt_of_le hq hgr.size) hne).trans (hgr.block q hq hne))⟩)
        have H3 := Lib.hid (show ((wr.setCell ⟨g, j * 2, none⟩ (.int .i64 (k + ((j * 2 : Nat) : Int)))).setCell ⟨g, j * 2 + 1, none⟩ (.int .i64 (k + ((j * 2 + 1 : Nat) : Int)))).heap.size = w.heap.size by simpa using hsz)
        have hbk : k + ((j * 2 : Nat) : Int) ≤ 9000000000000000 := by omega
        have hbk0 : 0 ≤ k + ((j * 2 : Nat) : Int) := by omega
        generalize (vals (marks k (j * 2) ++ zs.drop (j * 2)))[j * 2]'(by rw [hlen]; omega) = u0 at hc0
        generalize (vals (marks k (j * 2 + 1) ++ zs.drop (j * 2 + 1)))[j * 2 + 1]'(by rw [hlen1]; omega) = u1 at hc1
        obtain ⟨m0, hm0⟩ : ∃ m, m = k + ((j * 2 : Nat) : Int) := ⟨_, rfl⟩
        obtain ⟨m1, hm1⟩ : ∃ m, m = k + ((j * 2 + 1 : Nat) : Int) := ⟨_, rfl⟩
        rw [← hm0, ← hm1] at hkk
        rw [← hm1] at hkk2
        rw [← hm0, ← hm1] at H2 H3
        rw [← hm0] at hbk hbk0 hc1 hfr1 ⊢
        have HM0 := Lib.hid hm0
        have HM1 := Lib.hid hm1
        have hm1b : m1 ≤ 9000000000000001 := by omega
        have hm1c : 0 ≤ m1 := by omega
        have HS5 := Lib.hid (show (((wr.setCell ⟨g, j * 2, none⟩ (.int .i64 m0)).setCell ⟨g, j * 2 + 1, none⟩ (.int .i64 m1))).ownsRow base 91 2 (.slice (some ⟨g, 0, none⟩) n cap) n (vals (marks k ((j + 1) * 2) ++ zs.drop ((j + 1) * 2))) by
          have := HS3.out
          rw [← HM0.out, ← HM1.out] at this
          rw [show (j + 1) * 2 = j * 2 + 1 + 1 by omega]
          exact this)
        clear hown hst1 hst2 hst3 hst4 hgr hsz hlen hlen1 hm0 hm1 HS3 H1
        go_wp2_with fail
        go_roundw
        case rel => exact ⟨j + 1, by omega, by go_num, by first | rfl | (rw [hkk2]) | go_num, HS5.out, H3.out, H2.out⟩
        case measure => simp [intOf]; omega
      · have e : j = n := by omega
        have HE := Lib.hid e
        have HW := Lib.hid hown
        have HG := Lib.hid hgr
        have HZ := Lib.hid hsz
        have HL := Lib.hid hzl
        clear e hown hgr hsz hzl
        go_wp2_with fail
        go_ret
        refine ⟨by rw [HE.out]; rfl, ?_, HZ.out, HG.out⟩
        have h1 := HW.out
        rw [HE.out, ← HL.out, List.drop_length, List.append_nil, HL.out] at h1
        exact h1
set_option maxRecDepth 100000 in
set_option maxHeartbeats 1000000 in
theorem heldShareS_any (a : Option Addr) (n c : Nat) (k : Int) (w : World) (h : Ints w a (marks k (n * 2))) (hk0 : 0 ≤ k) (hk1 : k ≤ 1152921504606846) (hl : n ≤ 1152921504606846) :
    Calls Tryd.prog 32 #[.slice a n c, .int .i64 k] w fun e w' => e = .returned (.int .i64 (k + ((n * 2 : Nat) : Int))) ∧ w = w' := by
  go_enter Tryd.func32, Tryd.ntmps32
  go_wp2_with fail
  go_loop [1, 5] (fun q i => ∃ j : Nat, j ≤ n ∧ i = .int .i64 j ∧ q = .int .i64 (k + ((j * 2 : Nat) : Int)))
    (fun _ i => n - (intOf i).toNat)
  case atStart => exact ⟨0, Nat.zero_le _, rfl, by simp⟩
  case round =>
    obtain ⟨j, hj, rfl, rfl⟩ := hrel
    by_cases hlt : j < n
    · rcases h with h | ⟨b, o, rfl, hc⟩
      · have := congrArg List.length h
        rw [marks_len] at this
        simp at this
        omega
      have hcell := hc (j * 2) (by rw [marks_len]; omega)
      have hcell1 := hc (j * 2 + 1) (by rw [marks_len]; omega)
      rw [marks_nth k (show j * 2 < n * 2 by omega)] at hcell
      rw [marks_nth k (show j * 2 + 1 < n * 2 by omega), ← Nat.add_assoc] at hcell1
      have hi0 : (j : Int) < (n : Int) := by omega
      have hkk : k + ((j * 2 : Nat) : Int) + 1 = k + ((j * 2 + 1 : Nat) : Int) := by omega
      have hkk2 : k + ((j * 2 + 1 : Nat) : Int) + 1 = k + (((j + 1) * 2 : Nat) : Int) := by omega
      have hbk : k + ((j * 2 + 1 : Nat) : Int) ≤ 9000000000000000 := by omega
      have hbk0 : 0 ≤ k + ((j * 2 : Nat) : Int) := by omega
      have HK2 := Lib.hid hkk2
      generalize k + ((j * 2 + 1 : Nat) : Int) = m1 at *
      generalize k + ((j * 2 : Nat) : Int) = m0 at *
      clear hc
      go_wp2_with fail
      go_round
      case rel => exact ⟨j + 1, by omega, by go_num, by first | rfl | (rw [HK2.out]) | go_num⟩
      case measure => simp [intOf]; omega
    · have HE := Lib.hid (show j = n by omega)
      go_wp2_with fail
      go_ret
      exact ⟨by rw [HE.out]; rfl, rfl⟩
end Go.Proofs.YtgndekojodpmkaaDoor

/- The model's l05Cut and l05Sum. -/
import Derived.Test.YtgndekojodpmkaaDoorTrm
import Derived.Test.YtgndekojodpmkaaDoorOw
import Derived.BigQuiet
namespace Go.Proofs.YtgndekojodpmkaaDoor
open Go.RowKit Go.Deep
set_option linter.unusedVariables false

theorem Ints.take {w : World} {a : Option Addr} {zs : List Int} (h : Ints w a zs) (k : Nat) : Ints w a (zs.take k) := by
  rcases h with h | ⟨b, o, ha, hc⟩
  · left; rw [h]; simp
  · refine .inr ⟨b, o, ha, fun i hi => ?_⟩
    have hi2 : i < k ∧ i < zs.length := by rw [List.length_take] at hi; omega
    have := hc i hi2.2
    rw [show nth (zs.take k) i = nth zs i by simp [nth, List.getD, hi2.1]]
    exact this
theorem OwnI.intsC {w : World} {base : Nat} {v : Value} {zs : List Int} (h : OwnI w base v zs) : ∃ a c, v = .slice a zs.length c ∧ Ints w a zs ∧ zs.length ≤ c := by
  rcases h.2 with ⟨hv, hn⟩ | ⟨g, cap, cur, hv, _, _, hc, hm, _⟩
  · exact ⟨none, 0, by rw [hv, hn], .inl (List.eq_nil_of_length_eq_zero hn), by omega⟩
  · obtain ⟨a, c, e, hI, _⟩ := h.ints
    rw [hv] at e
    injection e with e1 e2 e3
    subst e1
    exact ⟨_, cap, by rw [hv], hI, hc⟩

set_option maxRecDepth 100000 in
set_option maxHeartbeats 400000 in
theorem l05Cut_any (a : Option Addr) (zs : List Int) (c : Nat) (w : World) (h : Ints w a zs) (hl : zs.length ≤ 1048576) (hc : zs.length ≤ c) :
    Calls Tryd.prog 93 #[.slice a zs.length c] w (GivesInts w (cut zs)) := by
  have HI := Lib.hid h
  have HOW := Lib.hid (fun k (hk : k ≤ zs.length) => (show Calls Tryd.prog 92 #[.slice a k c] w (GivesInts w (zs.take k)) from by
    have := l00Own_any a (zs.take k) c w (h.take k) (by rw [List.length_take]; omega)
    rw [List.length_take, Nat.min_eq_left hk] at this
    exact this))
  go_enter Tryd.func93, Tryd.ntmps93
  go_wp2_with fail
  go_loop [3] (fun i => ∃ k : Nat, k ≤ zs.length ∧ i = .int .i64 k ∧ cutTo zs k = cutTo zs zs.length) (fun i => (intOf i).toNat)
  case atStart => exact ⟨zs.length, Nat.le_refl _, rfl, rfl⟩
  case round =>
    obtain ⟨k, hk, rfl, hcut⟩ := hrel
    have HK := Lib.hid hcut
    clear hcut
    have hkc : (k : Int) ≤ (c : Int) := by omega
    have hkc2 : k ≤ c := by omega
    by_cases h0 : k = 0
    · have HE := Lib.hid (show cut zs = zs.take k by unfold cut; rw [← HK.out, h0]; rfl)
      have t0 : ¬ (0 : Int) < (k : Int) := by omega
      clear h0
      go_wp2_with fail
      refine (HOW.out k hk).mono ?_
      rintro e w2 hG
      obtain ⟨⟨v, rfl, ho⟩, hb⟩ := hG
      go_wp2_with fail
      go_ret
      rw [HE.out]
      exact ⟨⟨v, rfl, ho⟩, hb⟩
    · obtain ⟨j, hj⟩ : ∃ j : Nat, k = j + 1 := ⟨k - 1, by omega⟩
      rcases h with h | ⟨b, o, rfl, hcc⟩
      · rw [h] at hk; simp at hk; exact absurd hk h0
      have hcell := hcc j (by omega)
      have t0 : (0 : Int) < (k : Int) := by omega
      have hkj : (k : Int) - 1 = (j : Int) := by omega
      have hjk : (j : Int) < (zs.length : Int) := by omega
      have HJ := Lib.hid hj
      clear hcc h0 hj
      by_cases hz : nth zs j = 0
      · have tz : (nth zs j == 0) = true := by simp [hz]
        have HE := Lib.hid (show cutTo zs j = cutTo zs zs.length by rw [← HK.out, HJ.out, cutTo_zero hz])
        clear hz
        go_wp2
        go_round
        case rel => exact ⟨j, by omega, by first | rfl | simp, HE.out⟩
        case measure => simp [intOf]; omega
      · have tz : (nth zs j == 0) = false := by simp [hz]
        have HE := Lib.hid (show cut zs = zs.take k by unfold cut; rw [← HK.out, HJ.out, cutTo_stop hz])
        clear hz
        go_wp2_with fail
        refine (HOW.out k hk).mono ?_
        rintro e w2 hG
        obtain ⟨⟨v, rfl, ho⟩, hb⟩ := hG
        go_wp2_with fail
        go_ret
        rw [HE.out]
        exact ⟨⟨v, rfl, ho⟩, hb⟩
/-- A sum up to an item: the first k items are sums modulo p, those behind are as they were. -/
def addTo (p f : Int) (xs ys : List Int) (k : Nat) : List Int := (List.range (max xs.length k)).map fun i => if i < k then (nth xs i + nth ys i * f) % p else nth xs i
theorem addTo_len (p f : Int) (xs ys : List Int) (k : Nat) : (addTo p f xs ys k).length = max xs.length k := by simp [addTo]
theorem addTo_nth (p f : Int) (xs ys : List Int) {k i : Nat} (h : i < max xs.length k) : nth (addTo p f xs ys k) i = if i < k then (nth xs i + nth ys i * f) % p else nth xs i := by
  simp [nth, addTo, List.getD, h]
theorem nth_out {xs : List Int} {i : Nat} (h : xs.length ≤ i) : nth xs i = 0 := by simp [nth, List.getD, h]
theorem addTo_zero (p f : Int) (xs ys : List Int) : addTo p f xs ys 0 = xs := by
  refine ext_nth (by rw [addTo_len]; omega) fun i hi => ?_
  rw [addTo_len] at hi
  rw [addTo_nth _ _ _ _ hi, if_neg (by omega)]
/-- The sum with a place for the item k. -/
def addRoom (p f : Int) (xs ys : List Int) (k : Nat) : List Int := if (addTo p f xs ys k).length = k then addTo p f xs ys k ++ [0] else addTo p f xs ys k
theorem addRoom_len (p f : Int) (xs ys : List Int) (k : Nat) : (addRoom p f xs ys k).length = max xs.length (k + 1) := by
  unfold addRoom
  split
  · rename_i h; rw [List.length_append]; rw [addTo_len] at h ⊢; simp; omega
  · rename_i h; rw [addTo_len] at h ⊢; omega
theorem addRoom_nth (p f : Int) (xs ys : List Int) {k i : Nat} (h : i < max xs.length (k + 1)) : nth (addRoom p f xs ys k) i = if i < k then (nth xs i + nth ys i * f) % p else nth xs i := by
  unfold addRoom
  split
  · rename_i h1
    rw [addTo_len] at h1
    by_cases hi : i < k
    · rw [show nth (addTo p f xs ys k ++ [0]) i = nth (addTo p f xs ys k) i by simp [nth, List.getD, List.getElem?_append_left (show i < (addTo p f xs ys k).length by rw [addTo_len]; omega)]]
      exact addTo_nth p f xs ys (by omega)
    · obtain rfl : i = k := by omega
      rw [if_neg hi, nth_out (show xs.length ≤ i by omega)]
      have : (addTo p f xs ys i).length = i := by rw [addTo_len]; exact h1
      simp [nth, List.getD, this]
  · rename_i h1
    rw [addTo_len] at h1
    exact addTo_nth p f xs ys (by omega)
theorem addTo_succ (p f : Int) (xs ys : List Int) (k : Nat) : (addRoom p f xs ys k).set k ((nth xs k + nth ys k * f) % p) = addTo p f xs ys (k + 1) := by
  refine ext_nth (by rw [List.length_set, addRoom_len, addTo_len]) fun i hi => ?_
  rw [List.length_set, addRoom_len] at hi
  rw [addTo_nth _ _ _ _ hi]
  by_cases e : i = k
  · subst e
    rw [if_pos (by omega)]
    simp [nth, List.getD, addRoom_len, show i < max xs.length (i + 1) by omega]
  · rw [show nth ((addRoom p f xs ys k).set k ((nth xs k + nth ys k * f) % p)) i = nth (addRoom p f xs ys k) i by simp [nth, List.getD, Ne.symm e], addRoom_nth _ _ _ _ hi]
    by_cases h2 : i < k
    · rw [if_pos h2, if_pos (by omega)]
    · rw [if_neg h2, if_neg (by omega)]
theorem vals_set (zs : List Int) (k : Nat) (y : Int) : (vals zs).set k (.int .i64 y) = vals (zs.set k y) := by simp [vals, List.map_set]

theorem nth_bound {p : Int} {zs : List Int} (hp : 2 ≤ p) (h : Elems p zs) (i : Nat) : Elem p (nth zs i) := by
  by_cases hi : i < zs.length
  · exact h i hi
  · rw [nth_out (by omega)]; exact ⟨Int.le_refl _, by omega⟩
set_option maxRecDepth 100000 in
set_option maxHeartbeats 1000000 in
theorem l05Sum_any (p f : Int) (a1 a2 : Option Addr) (xs ys : List Int) (c1 c2 : Nat) (w : World) (h1 : Ints w a1 xs) (h2 : Ints w a2 ys) (hl1 : xs.length ≤ 1000) (hl2 : ys.length ≤ 1000) (hp : 2 ≤ p) (hp1 : p ≤ 31) (hf : Elem p f) (he1 : Elems p xs) (he2 : Elems p ys) :
    Calls Tryd.prog 61 #[.int .i64 p, .slice a1 xs.length c1, .slice a2 ys.length c2, .int .i64 f] w (GivesInts w (cut (addTo p f xs ys ys.length))) := by
  obtain ⟨i0, hi, hz0, hz1, hz2⟩ := info_parts Tryd.infoInt64
  have HI := Lib.hid h2
  clear h2
  go_enter Tryd.func61, Tryd.ntmps61
  go_wp2_with fail
  refine (l00Own_any a1 xs c1 w h1 (by omega)).mono ?_
  rintro e w2 hG
  obtain ⟨⟨v2, rfl, ho2⟩, hb2⟩ := hG
  have HO2 := Lib.hid (show OwnI w2 w.heap.size v2 (addTo p f xs ys 0) by rw [addTo_zero]; exact ho2)
  have HB2 := Lib.hid hb2
  clear ho2 hb2 h1
  go_wp2_with fail
  go_loopw [9, 10] (fun q i wr => ∃ k : Nat, k ≤ ys.length ∧ i = .int .i64 k ∧ OwnI wr w.heap.size q (addTo p f xs ys k) ∧ Below w.heap.size w wr)
    (fun _ i _ => ys.length - (intOf i).toNat)
  case atStart => exact ⟨0, Nat.zero_le _, rfl, HO2.out, HB2.out⟩
  case round =>
    obtain ⟨k, hk, rfl, ho, hb⟩ := hrel
    obtain ⟨qa, qc, hq⟩ := rowForm ho
    subst hq
    have hsz := hb.size
    have HO := Lib.hid ho
    have HB := Lib.hid hb
    clear ho hb HO2 HB2
    have HLN := Lib.hid (addTo_len p f xs ys k)
    obtain ⟨m, hm⟩ : ∃ m, (addTo p f xs ys k).length = m := ⟨_, rfl⟩
    rw [hm]
    have HM := Lib.hid hm
    have hmk : k ≤ m := by rw [← hm, HLN.out]; omega
    have hm1 : m ≤ 1000 := by rw [← hm, HLN.out]; omega
    clear hm
    by_cases hlt : k < ys.length
    · have hi0 : (k : Int) < (ys.length : Int) := by omega
      rcases HI.out with h | ⟨b, o, rfl, hcc⟩
      · rw [h] at hlt; exact absurd hlt (Nat.not_lt_zero _)
      have hcy := hcc k hlt
      have hlb := World.block_lt_of_cell? _ _ hcy
      simp only at hlb
      obtain ⟨y0, y1⟩ := he2 k hlt
      obtain ⟨x0, x1⟩ := nth_bound hp he1 k
      obtain ⟨m0, m1⟩ := mul_bounds hp1 (he2 k hlt) hf
      have HSU := Lib.hid (addTo_succ p f xs ys k)
      have HRM := Lib.hid (show addRoom p f xs ys k = if (addTo p f xs ys k).length = k then addTo p f xs ys k ++ [0] else addTo p f xs ys k from rfl)
      have HRN := Lib.hid (addRoom_nth p f xs ys (k := k) (i := k) (by omega))
      have HRL := Lib.hid (addRoom_len p f xs ys k)
      clear hcc
      generalize nth ys k = y at *
      generalize nth xs k = x at *
      have wr1 : IntKind.i64.wrap (y * f) = y * f := IntWalk.i64_in _ (by omega)
      have wr2 : IntKind.i64.wrap (x + y * f) = x + y * f := IntWalk.i64_in _ (by omega)
      have hp0 : p ≠ 0 := by omega
      by_cases hmm : m = k
      · have tk : ((k : Int) == (m : Int)) = true := by rw [beq_iff_eq]; omega
        have hkm : (k : Int) < (m : Int) + 1 := by omega
        have hkm2 : k < m + 1 := by omega
        have HE := Lib.hid (show addRoom p f xs ys k = addTo p f xs ys k ++ [0] by rw [HRM.out, if_pos (by rw [HM.out]; exact hmm)])
        have HOM := Lib.hid (show wr.ownsRow w.heap.size 2 1 (.slice qa m qc) m (vals (addTo p f xs ys k)) by
          have := HO.out
          unfold OwnI at this
          rw [HM.out] at this
          exact this)
        have HMK := Lib.hid hmm
        clear hmm HO
        go_wp2_with (at_builtin; refine wpList_append_own _ rfl _ _ 22 rfl w.heap.size 2 i0 (.int .i64 0) 1 8 Tryd.underlying22 hi hz0 hz1 hz2 rfl (by decide) _ _ _ rfl (World.ownsRow.alloc HOM.out _) ⟨wr.heap.size, 0, none⟩ 1 1 [.int .i64 0] rfl rfl (cell_one_new _ _ _) (by simp [Value.oneCell']) (by unfold maxLen; omega) (by omega) (by simp; omega) ?_; intro v' w6 hown6 hgrow6 _; obtain ⟨g', cap', rfl⟩ := ownsRow_succ hown6; have HB6 := Lib.hid ((HB.out.alloc hsz (.cells #[.int .i64 0] 2)).grown hgrow6 (by simp; omega) (fun q hq => (row_lt HOM.out hq).1)); have HO6 := Lib.hid (show w6.ownsRow w.heap.size 2 1 (.slice (some ⟨g', 0, none⟩) (m + 1) cap') (m + 1) (vals (addRoom p f xs ys k)) by rw [HE.out, vals_snoc]; exact hown6); have c0 := World.ownsRow.cellAt HO6.out k (by omega); have f0 := World.ownsRow.frozenAt HO6.out k; have hgg := row_lt HO6.out (b := g') rfl; have hgl := hgg.2; have cy := cell_step HB6.out hcy; have c1 : w6.cell? ⟨g', k, none⟩ = some (.int .i64 x) := (by
            rw [c0]
            have := HRN.out
            rw [if_neg (by omega)] at this
            have hl : k < (addRoom p f xs ys k).length := (by rw [HRL.out]; omega)
            rw [← this, nth_lt hl]
            simp [vals, hl]); clear c0 hown6 hgrow6)
        go_region
        obtain ⟨st1, st2⟩ := World.ownsRow.stored HO6.out k (.int .i64 ((x + y * f) % p))
        rw [vals_set, HSU.out] at st1
        have HL1 := Lib.hid (show (addTo p f xs ys (k + 1)).length = m + 1 by rw [addTo_len]; have := HM.out; rw [HLN.out] at this; have := HMK.out; omega)
        have H7 := Lib.hid (show OwnI (w6.setCell ⟨g', k, none⟩ (.int .i64 ((x + y * f) % p))).drew w.heap.size (.slice (some ⟨g', 0, none⟩) (m + 1) cap') (addTo p f xs ys (k + 1)) by
          have := row_step st1 (drew_step _)
          unfold OwnI
          rw [HL1.out]
          exact this)
        have HB7 := Lib.hid (HB6.out.setCell (p := ⟨g', k, none⟩) hgg.1 (.int .i64 ((x + y * f) % p))).drew
        clear st1 st2
        generalize (w6.setCell ⟨g', k, none⟩ (.int .i64 ((x + y * f) % p))).drew = w7 at *
        go_wp2_with fail
        go_roundw
        case rel => exact ⟨k + 1, by omega, by go_num, H7.out, HB7.out⟩
        case measure => simp [intOf]; omega
      · have tk : ((k : Int) == (m : Int)) = false := by rw [beq_eq_false_iff_ne]; omega
        have hkm : (k : Int) < (m : Int) := by omega
        have HE := Lib.hid (show addRoom p f xs ys k = addTo p f xs ys k by rw [HRM.out, if_neg (by rw [HM.out]; exact hmm)])
        have ho := HO.out
        rcases ho.2 with ⟨e, h00⟩ | ⟨g, cap, cur, e, hg, hgb, _⟩
        · rw [HM.out] at h00; omega
        injection e with e1 e2 e3
        subst e1
        subst e3
        have hgl := (Array.getElem?_eq_some_iff.1 hgb).1
        have ho' : OwnI wr w.heap.size (.slice (some ⟨g, 0, none⟩) (addTo p f xs ys k).length qc) (addTo p f xs ys k) := ho
        have c0 := World.ownsRow.cellAt ho' k (by rw [HM.out]; omega)
        have f0 := World.ownsRow.frozenAt ho' k
        obtain ⟨st1, st2⟩ := World.ownsRow.stored ho' k (.int .i64 ((x + y * f) % p))
        rw [vals_set, ← HE.out, HSU.out] at st1
        have ST1 := Lib.hid st1
        have ST2 := Lib.hid st2
        have c1 : wr.cell? ⟨g, k, none⟩ = some (.int .i64 x) := by
          rw [c0, ← HE.out]
          have := HRN.out
          rw [if_neg (by omega)] at this
          have hl : k < (addRoom p f xs ys k).length := by rw [HRL.out]; omega
          rw [← this, nth_lt hl]
          simp [vals, hl]
        have cy := cell_step HB.out hcy
        clear ho ho' c0 st1 st2 hgb e2 HO
        go_wp2_with fail
        go_region
        have HL1 := Lib.hid (show (addTo p f xs ys (k + 1)).length = (addTo p f xs ys k).length by rw [addTo_len, HM.out, ← HM.out, HLN.out]; have := HM.out; rw [HLN.out] at this; omega)
        have H6 := Lib.hid (show OwnI (wr.setCell ⟨g, k, none⟩ (.int .i64 ((x + y * f) % p))).drew w.heap.size (.slice (some ⟨g, 0, none⟩) m qc) (addTo p f xs ys (k + 1)) by
          have := row_step ST1.out (drew_step _)
          unfold OwnI
          rw [HL1.out, HM.out]
          rw [HE.out, HM.out] at this
          exact this)
        have HB6 := Lib.hid (HB.out.setCell (p := ⟨g, k, none⟩) hg (.int .i64 ((x + y * f) % p))).drew
        generalize (wr.setCell ⟨g, k, none⟩ (.int .i64 ((x + y * f) % p))).drew = w7 at *
        go_wp2_with fail
        go_roundw
        case rel => exact ⟨k + 1, by omega, by go_num, H6.out, HB6.out⟩
        case measure => simp [intOf]; omega
    · have HE := Lib.hid (show k = ys.length by omega)
      have hle : (addTo p f xs ys k).length ≤ 1048576 := by rw [HM.out]; omega
      obtain ⟨a', c', e', hI', hc'⟩ := HO.out.intsC
      injection e' with e1 e2 e3
      subst e1
      subst e3
      have hcut := l05Cut_any qa (addTo p f xs ys k) qc wr hI' hle hc'
      rw [HM.out] at hcut
      have HCUT := Lib.hid hcut
      clear hcut e2 hI' hc' hle
      go_wp2_with fail
      refine HCUT.out.mono ?_
      rintro e w8 hG
      obtain ⟨⟨v8, rfl, ho8⟩, hb8⟩ := hG
      have HO8 := Lib.hid (ho8.mono hsz)
      have HB8 := Lib.hid (HB.out.trans (hb8.mono hsz))
      clear ho8 hb8
      go_wp2_with fail
      go_ret
      have := HO8.out
      rw [HE.out] at this
      exact ⟨⟨v8, rfl, this⟩, HB8.out⟩
end Go.Proofs.YtgndekojodpmkaaDoor

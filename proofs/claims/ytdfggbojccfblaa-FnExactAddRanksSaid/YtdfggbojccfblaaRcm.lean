/- CutRanks of the model. -/
import Derived.Test.YtdfggbojccfblaaRmr
import Derived.Deep.RegionLaw
namespace Go.Proofs.Ytdfggbojccfblaa
open Go.RowKit Go.Deep Go.Shelf
set_option linter.unusedVariables false

theorem alloc_b (w : World) (o : Obj) : Below w.heap.size w (w.alloc o) := (Below.refl _ _).alloc (Nat.le_refl _) o
theorem row_ltk {W : World} {base b e size n : Nat} {u : Value} {xs : List Value} (h : W.ownsRow base e size u n xs) (hb : u.ownBlock = some b) : base ≤ b ∧ b < W.heap.size := World.ownsRow.lt h b hb
/-- The ranks of the groups below a number without a holder. -/
def kept (z : List Int) (k j : Nat) : List Int := ((List.range j).filter fun b => !b.testBit k).map (nth z)
theorem kept_hit (z : List Int) {k j : Nat} (h : j.testBit k = false) : kept z k (j + 1) = kept z k j ++ [nth z j] := by simp [kept, List.range_succ, h]
theorem kept_miss (z : List Int) {k j : Nat} (h : j.testBit k = true) : kept z k (j + 1) = kept z k j := by simp [kept, List.range_succ, h]
theorem kept_len (z : List Int) (k j : Nat) : (kept z k j).length ≤ j := by
  unfold kept
  rw [List.length_map]
  exact Nat.le_trans (List.length_filter_le _ _) (by simp)
theorem kept_fact : ∀ m' : Fin 5, ∀ k : Fin 5, k.val < m'.val + 1 → ((List.range (2 ^ (m'.val + 1))).filter fun b => !b.testBit k.val) = (List.range (2 ^ m'.val)).map (wideN k.val) := by decide +kernel
theorem kept_all (z : List Int) {m' k : Nat} (hm : m' < 5) (hk : k < m' + 1) : kept z k (2 ^ (m' + 1)) = cutZ z k (2 ^ m') := by
  unfold kept cutZ numsBy
  rw [kept_fact ⟨m', hm⟩ ⟨k, by omega⟩ hk, List.map_map]
  rfl
theorem kept_test : ∀ x : Nat, x < 32 → ∀ n : Nat, n < 5 → (bits BinOp.and IntKind.i64 ((x : Int) / 2 ^ n) 1 == 0) = !x.testBit n := by decide +kernel

set_option maxHeartbeats 4000000 in
set_option maxRecDepth 100000 in
theorem specCr_any (h l k : Int) (a : Option Addr) (z : List Int) (c : Nat) (w : World) (hr : Ints w a z) (hl : LenI z) :
    Calls Try.prog 27 #[.agg #[.int .i64 h, .int .i64 l, .slice a z.length c], .int .i64 k] w (GivesKX w (crH h l z k) (crL h l z k) (crZ h l z k) (crC h l z k)) := by
  obtain ⟨i0, hi, hz0, hz1, hz2⟩ := info_parts Try.infoInt64
  have hln := hl.n
  have hb1 := (Below.refl w.heap.size w).alloc (Nat.le_refl _) (.cells #[.int .i64 h, .int .i64 l, .slice a z.length c] 27)
  have hb2 := hb1.alloc (by simp) (.cells #[.int .i64 0, .int .i64 0, .slice none 0 0] 27)
  have hx := (boxes_new w #[.int .i64 h, .int .i64 l, .slice a z.length c] 27).step ((Below.refl _ _).alloc (Nat.le_refl _) (.cells #[.int .i64 0, .int .i64 0, .slice none 0 0] 27))
  have hzz := boxes_new (w.alloc (.cells #[.int .i64 h, .int .i64 l, .slice a z.length c] 27)) #[.int .i64 0, .int .i64 0, .slice none 0 0] 27
  rw [World.size_alloc] at hzz
  have HR := Lib.hid (hr.step hb2)
  have HL := Lib.hid hl
  have hok := fun W (q : Boxes W w.heap.size 27 #[.int .i64 h, .int .i64 l, .slice a z.length c]) (r : Ints W a z) => l07Ok_any w.heap.size h l a z c W q r hl
  go_enter Try.func27, Try.ntmps27
  go_wp2_with fail
  generalize (w.alloc (.cells #[.int .i64 h, .int .i64 l, .slice a z.length c] 27)).alloc (.cells #[.int .i64 0, .int .i64 0, .slice none 0 0] 27) = w1 at *
  refine (hok w1 hx HR.out).mono ?_
  rintro e w2 ⟨rfl, hq⟩
  have HB2 := Lib.hid (chain hb2 (quiet_below hq))
  have HX := Lib.hid (hx.quiet hq)
  have HZ := Lib.hid (hzz.quiet hq)
  have HR2 := Lib.hid (HR.out.quiet hq)
  have c0 := HX.out.m0
  have c1 := HX.out.m1
  have c2 := HX.out.m2
  have z0 := HZ.out.m0
  have z1 := HZ.out.m1
  have z2 := HZ.out.m2
  have f0 := HZ.out.frozen 0
  have f1 := HZ.out.frozen 1
  have f2 := HZ.out.frozen 2
  have hlt := HZ.out.lt
  clear hb1 hb2 hx hzz hq hok hr hl
  by_cases hk : RkOk h l z
  case neg =>
    have HT := Lib.hid (tell_false hk)
    have HC := Lib.hid (cr_bad (k := k) hk)
    have HN := Lib.hid (cr_no (h := h) (l := l) (z := z) (k := k) (by rw [HC.out]; decide))
    clear hk
    rw [HT.out]
    go_wp2_with fail
    refine bodyPost_ret (v := .tuple #[.agg #[.int .i64 0, .int .i64 0, .slice none 0 0], .int .i64 1]) (by simp [results, Try.results27, go_sem, z0, z1, z2]) rfl (GivesKY.x <| gives_none HN.out.1 HN.out.2.1 HN.out.2.2 HC.out ?_)
    exact ((HB2.out.setCell (p := ⟨w.heap.size + 1, 0, none⟩) (by show w.heap.size ≤ w.heap.size + 1; omega) _).setCell (p := ⟨w.heap.size + 1, 1, none⟩) (by show w.heap.size ≤ w.heap.size + 1; omega) _).setCell (p := ⟨w.heap.size + 1, 2, none⟩) (by show w.heap.size ≤ w.heap.size + 1; omega) _
  have hh := hk.1.1
  obtain ⟨m, rfl⟩ : ∃ m : Nat, h = (m : Int) := ⟨h.toNat, by omega⟩
  have m1 : 1 ≤ m := by omega
  have m5 : m ≤ 5 := by omega
  have HK := Lib.hid hk
  have HT := Lib.hid (tell_true hk)
  clear hk hh
  rw [HT.out]
  by_cases hg0 : 0 ≤ k ∧ k ≤ (m : Int) - 1
  case neg =>
    have HT2 := Lib.hid (tell_false hg0)
    have HC := Lib.hid (cr_out (k := k) HK.out (fun f => hg0 (by omega)))
    have HN := Lib.hid (cr_no (h := (m : Int)) (l := l) (z := z) (k := k) (by rw [HC.out]; decide))
    clear hg0
    go_wp2_with fail
    refine (l00In_tell k 0 ((m : Int) - 1) w2).mono ?_
    rintro e w3 ⟨rfl, rfl⟩
    rw [HT2.out]
    go_wp2_with fail
    refine bodyPost_ret (v := .tuple #[.agg #[.int .i64 0, .int .i64 0, .slice none 0 0], .int .i64 2]) (by simp [results, Try.results27, go_sem, z0, z1, z2]) rfl (GivesKY.x <| gives_none HN.out.1 HN.out.2.1 HN.out.2.2 HC.out ?_)
    exact ((HB2.out.setCell (p := ⟨w.heap.size + 1, 0, none⟩) (by show w.heap.size ≤ w.heap.size + 1; omega) _).setCell (p := ⟨w.heap.size + 1, 1, none⟩) (by show w.heap.size ≤ w.heap.size + 1; omega) _).setCell (p := ⟨w.heap.size + 1, 2, none⟩) (by show w.heap.size ≤ w.heap.size + 1; omega) _
  have HT2 := Lib.hid (tell_true hg0)
  by_cases hg1 : m = 1
  · have HC := Lib.hid (cr_out (k := k) HK.out (fun f => by omega))
    have HN := Lib.hid (cr_no (h := (m : Int)) (l := l) (z := z) (k := k) (by rw [HC.out]; decide))
    have q3 : ((m : Int) == 1) = true := by simp; omega
    have q3n : (m == 1) = true := by simp; omega
    clear hg0 hg1
    go_wp2_with fail
    refine (l00In_tell k 0 ((m : Int) - 1) w2).mono ?_
    rintro e w3 ⟨rfl, rfl⟩
    rw [HT2.out]
    go_wp2_with fail
    refine bodyPost_ret (v := .tuple #[.agg #[.int .i64 0, .int .i64 0, .slice none 0 0], .int .i64 2]) (by simp [results, Try.results27, go_sem, z0, z1, z2]) rfl (GivesKY.x <| gives_none HN.out.1 HN.out.2.1 HN.out.2.2 HC.out ?_)
    exact ((HB2.out.setCell (p := ⟨w.heap.size + 1, 0, none⟩) (by show w.heap.size ≤ w.heap.size + 1; omega) _).setCell (p := ⟨w.heap.size + 1, 1, none⟩) (by show w.heap.size ≤ w.heap.size + 1; omega) _).setCell (p := ⟨w.heap.size + 1, 2, none⟩) (by show w.heap.size ≤ w.heap.size + 1; omega) _
  have HC := Lib.hid (cr_in (k := k) HK.out ⟨by omega, by omega⟩)
  have HN := Lib.hid (cr_yes HC.out)
  obtain ⟨kn, rfl⟩ : ∃ kn : Nat, k = (kn : Int) := ⟨k.toNat, by omega⟩
  obtain ⟨m', hm'⟩ : ∃ m', m = m' + 1 := ⟨m - 1, by omega⟩
  have HM' := Lib.hid hm'
  have hkm : kn < m := by omega
  have hkn5 : kn < 5 := by omega
  have HMI := Lib.hid (show (m : Int) - 1 = (m' : Int) by omega)
  have q3 : ((m : Int) == 1) = false := by simp; omega
  have q3n : (m == 1) = false := by simp; omega
  have hzl : z.length ≤ 32 := by rw [HK.out.len]; exact pow5 m5
  clear hg0 hg1 hm'
  go_wp2_with fail
  refine (l00In_tell (kn : Int) 0 ((m : Int) - 1) w2).mono ?_
  rintro e w3 ⟨rfl, rfl⟩
  rw [HT2.out]
  have hmi := HMI.out
  go_wp2_with fail
  have hbx := boxes_new w2 #[.int .i64 (m' : Int), .int .i64 l, .slice none 0 0] 27
  have hbl := alloc_b w2 (.cells #[.int .i64 (m' : Int), .int .i64 l, .slice none 0 0] 27)
  generalize w2.alloc (.cells #[.int .i64 (m' : Int), .int .i64 l, .slice none 0 0] 27) = w3 at *
  have HBX0 := Lib.hid hbx
  have HBL0 := Lib.hid hbl
  clear hbx hbl c0 c1 c2 z0 z1 z2 f0 f1 f2
  go_loopw [7] (fun i wr => ∃ (j q : Nat) (qa : Option Addr) (qc : Nat), i = .int .i64 j ∧ j ≤ z.length ∧ (kept z kn j).length = q ∧ Boxes wr w2.heap.size 27 #[.int .i64 (m' : Int), .int .i64 l, .slice qa q qc] ∧ wr.ownsRow (w2.heap.size + 1) 2 1 (.slice qa q qc) q (vals (kept z kn j)) ∧ Below w2.heap.size w2 wr)
    (fun i _ => z.length - (intOf i).toNat)
  case atStart => exact ⟨0, 0, none, 0, rfl, Nat.zero_le _, rfl, HBX0.out, OwnI.nil _ _, HBL0.out⟩
  case round =>
    obtain ⟨j, q, qa, qc, rfl, hj, hql, hbx, how, hbl⟩ := hrel
    have HBX := Lib.hid hbx
    have HOW := Lib.hid how
    have HBL := Lib.hid hbl
    have HQL := Lib.hid hql
    have hqj : q ≤ 32 := by have := kept_len z kn j; omega
    have hsz := hbx.lt
    have hszz := hbl.size
    have e0 := hbx.m0
    have e1 := hbx.m1
    have e2 := hbx.m2
    have d2 := (HX.out.step hbl).m2
    have HNE := Lib.hid (show (Value.slice qa q qc).ownBlock ≠ some w2.heap.size from fun e => by have := (row_ltk how e).1; omega)
    clear hql hbx how HBX0 HBL0
    by_cases hlt2 : j < z.length
    · rcases HR2.out.step hbl with hh | ⟨b, o, rfl, hc⟩
      · rw [hh] at hlt2; exact absurd hlt2 (Nat.not_lt_zero _)
      have hi0 : (j : Int) < (z.length : Int) := by omega
      have g1 := hc j hlt2
      have kt := kept_test j (by omega) kn hkn5
      clear hbl hc
      cases ht : j.testBit kn with
      | true =>
        have HKM := Lib.hid (kept_miss z ht)
        rw [ht] at kt
        clear ht
        go_wp2_with fail
        go_roundw
        case rel => exact ⟨j + 1, q, qa, qc, by go_num, by omega, by rw [HKM.out]; exact HQL.out, HBX.out, by rw [HKM.out]; exact HOW.out, HBL.out⟩
        case measure => simp [intOf]; omega
      | false =>
        have HKH := Lib.hid (kept_hit z ht)
        rw [ht] at kt
        clear ht
        generalize hvv : nth z j = v at *
        have HVV := Lib.hid hvv
        clear hvv
        generalize hLL : kept z kn j = L at *
        have HLL := Lib.hid hLL
        clear hLL
        go_wp2_with fail
        go_region_law (refine step_append_lies _ (by rfl) _ _ 22 (by rfl) (w2.heap.size + 1) 2 i0 (.int .i64 0) 1 8 Try.underlying22 hi hz0 hz1 hz2 (by rfl) (by decide) (.slice qa q qc) q (vals L) (by first | rfl | simp [Act.eval]) (by first | exact World.ownsRow.alloc (row_step HOW.out (drew_step _)) _ | exact World.ownsRow.alloc HOW.out _ | exact row_step (World.ownsRow.alloc HOW.out _) (drew_step _)) ⟨wr.heap.size, 0, none⟩ 1 1 [.int .i64 v] (by first | rfl | simp [Act.eval]) (by rfl) (by first | exact cell_one_new _ _ _ | (intro j u hj; exact cell_one_new wr _ _ j u hj)) (by simp [Value.oneCell']) (by decide) (by unfold maxLen; omega) (by omega) (by simp; omega) _ rfl ?_; intro g cap w8 hown8 hgrow8 hat8 hlt8; have HX8 := Lib.hid (show Boxes w8 w2.heap.size 27 #[.int .i64 (m' : Int), .int .i64 l, .slice qa q qc] by first | exact (HBX.out.step (alloc_b _ _)).grown hgrow8 HNE.out | exact ((HBX.out.step (drew_step _)).step (alloc_b _ _)).grown hgrow8 HNE.out | exact ((HBX.out.step (alloc_b _ _)).step (drew_step _)).grown hgrow8 HNE.out); have HB8 := Lib.hid (show Below w2.heap.size w2 w8 by first | exact (HBL.out.alloc HBL.out.size (.cells #[.int .i64 v] 2)).grown hgrow8 (by have := HBL.out.size; simp; omega) (fun x hx => by have := (row_ltk HOW.out hx).1; omega) | exact ((HBL.out.alloc HBL.out.size (.cells #[.int .i64 v] 2)).drew).grown hgrow8 (by have := HBL.out.size; simp; omega) (fun x hx => by have := (row_ltk HOW.out hx).1; omega) | exact (HBL.out.drew.alloc (by have := HBL.out.size; simp; omega) (.cells #[.int .i64 v] 2)).grown hgrow8 (by have := HBL.out.size; simp; omega) (fun x hx => by have := (row_ltk HOW.out hx).1; omega)); have x2 := HX8.out.m2; have xf := HX8.out.frozen 2; have xl := HX8.out.lt)
        all_goals (
          have HO9 := Lib.hid (show World.ownsRow (w8.setCell ⟨w2.heap.size, 2, none⟩ (.slice (some ⟨g, 0, none⟩) (q + 1) cap)) (w2.heap.size + 1) 2 1 (.slice (some ⟨g, 0, none⟩) (q + 1) cap) (q + 1) (vals L ++ [.int .i64 v]) from row_seta hown8 (by show w2.heap.size < w2.heap.size + 1; omega) _)
          have HX9 := Lib.hid (HX8.out.put2 (.slice (some ⟨g, 0, none⟩) (q + 1) cap))
          have HB9 := Lib.hid (HB8.out.setCell (p := ⟨w2.heap.size, 2, none⟩) (Nat.le_refl _) (.slice (some ⟨g, 0, none⟩) (q + 1) cap))
          clear hown8 hgrow8 hat8 hlt8 x2 xf xl
          go_wp2_with fail
          go_roundw
          case rel => exact ⟨j + 1, q + 1, some ⟨g, 0, none⟩, cap, by go_num, by omega, by rw [HKH.out, List.length_append, HQL.out]; rfl, HX9.out, by rw [HKH.out, vals_snoc]; exact HO9.out, HB9.out⟩
          case measure => simp [intOf]; omega)
    · have hi0 : ¬ (j : Int) < (z.length : Int) := by omega
      have HJ := Lib.hid (show j = 2 ^ (m' + 1) by rw [← HM'.out, ← HK.out.len]; omega)
      have HZ3 := Lib.hid (HZ.out.step hbl)
      have z0 := HZ3.out.m0
      have z1 := HZ3.out.m1
      have z2 := HZ3.out.m2
      have f0 := HZ3.out.frozen 0
      have f1 := HZ3.out.frozen 1
      have f2 := HZ3.out.frozen 2
      have hlt3 := HZ3.out.lt
      have HBF := Lib.hid (chain HB2.out hbl)
      clear hbl
      go_wp2_with fail
      refine bodyPost_ret (v := .tuple #[.agg #[.int .i64 (m' : Int), .int .i64 l, .slice qa q qc], .int .i64 0]) (by simp [results, Try.results27, go_sem, z0, z1, z2]) rfl ?_
      have e1 : (m : Int).toNat - 1 = m' := by have := HM'.out; omega
      have hown : OwnI wr (w2.heap.size + 1) (.slice qa q qc) (kept z kn j) := by unfold OwnI; rw [HQL.out]; exact HOW.out
      have hs2 : w.heap.size + 1 < w2.heap.size + 1 := by omega
      have hI := Ints_of_own (((hown.setCell2 (p := ⟨w.heap.size + 1, 0, none⟩) hs2 (.int .i64 (m' : Int))).setCell2 (p := ⟨w.heap.size + 1, 1, none⟩) hs2 (.int .i64 l)).setCell2 (p := ⟨w.heap.size + 1, 2, none⟩) hs2 (.slice qa q qc))
      refine ⟨⟨qa, qc, ?_, ?_⟩, ?_⟩
      · rw [HC.out, HN.out.1, HN.out.2.1, HN.out.2.2, hmi, e1, Int.toNat_natCast, ← kept_all z (by omega) (by have := HM'.out; omega), ← HJ.out, HQL.out]
      · rw [HN.out.2.2, e1, Int.toNat_natCast, ← kept_all z (by omega) (by have := HM'.out; omega), ← HJ.out]
        exact hI
      · exact ((HBF.out.setCell (p := ⟨w.heap.size + 1, 0, none⟩) (by show w.heap.size ≤ w.heap.size + 1; omega) _).setCell (p := ⟨w.heap.size + 1, 1, none⟩) (by show w.heap.size ≤ w.heap.size + 1; omega) _).setCell (p := ⟨w.heap.size + 1, 2, none⟩) (by show w.heap.size ≤ w.heap.size + 1; omega) _
end Go.Proofs.Ytdfggbojccfblaa

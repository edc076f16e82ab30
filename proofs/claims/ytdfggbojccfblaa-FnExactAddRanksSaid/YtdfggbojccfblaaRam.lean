/- AddRanks of the model. -/
import Derived.Test.YtdfggbojccfblaaAr0
import Derived.Deep.RegionLaw
namespace Go.Proofs.Ytdfggbojccfblaa
open Go.RowKit Go.Deep Go.Shelf
set_option linter.unusedVariables false

set_option maxHeartbeats 8000000 in
set_option maxRecDepth 100000 in
theorem specAr_any (h l : Int) (a : Option Addr) (z : List Int) (c : Nat) (h1 l1 : Int) (b : Option Addr) (y : List Int) (d : Nat) (w : World) (hr : Ints w a z) (hl : LenI z) (hq : Ints w b y) (hl1 : LenI y) :
    Calls Try.prog 23 #[.agg #[.int .i64 h, .int .i64 l, .slice a z.length c], .agg #[.int .i64 h1, .int .i64 l1, .slice b y.length d]] w (GivesKY w (arH h l z h1 l1 y) (arL h l z h1 l1 y) (arZ h l z h1 l1 y) (arC h l z h1 l1 y)) := by
  obtain ⟨i0, hi, hz0, hz1, hz2⟩ := info_parts Try.infoInt64
  have hb1 := (Below.refl w.heap.size w).alloc (Nat.le_refl _) (.cells #[.int .i64 h, .int .i64 l, .slice a z.length c] 27)
  have hb2 := hb1.alloc (by simp) (.cells #[.int .i64 h1, .int .i64 l1, .slice b y.length d] 27)
  have hb3 := hb2.alloc (by simp; omega) (.cells #[.int .i64 0, .int .i64 0, .slice none 0 0] 27)
  have hx := ((boxes_new w #[.int .i64 h, .int .i64 l, .slice a z.length c] 27).step (alloc_b _ (.cells #[.int .i64 h1, .int .i64 l1, .slice b y.length d] 27))).step (alloc_b _ (.cells #[.int .i64 0, .int .i64 0, .slice none 0 0] 27))
  have hy := (boxes_new (w.alloc (.cells #[.int .i64 h, .int .i64 l, .slice a z.length c] 27)) #[.int .i64 h1, .int .i64 l1, .slice b y.length d] 27).step (alloc_b _ (.cells #[.int .i64 0, .int .i64 0, .slice none 0 0] 27))
  have hzz := boxes_new ((w.alloc (.cells #[.int .i64 h, .int .i64 l, .slice a z.length c] 27)).alloc (.cells #[.int .i64 h1, .int .i64 l1, .slice b y.length d] 27)) #[.int .i64 0, .int .i64 0, .slice none 0 0] 27
  simp only [World.size_alloc] at hy hzz
  have HR := Lib.hid (hr.step hb3)
  have HQ := Lib.hid (hq.step hb3)
  have hok := fun W (q : Boxes W w.heap.size 27 #[.int .i64 h, .int .i64 l, .slice a z.length c]) (r : Ints W a z) => l07Ok_any w.heap.size h l a z c W q r hl
  have hok1 := fun W (q : Boxes W (w.heap.size + 1) 27 #[.int .i64 h1, .int .i64 l1, .slice b y.length d]) (r : Ints W b y) => l07Ok_any (w.heap.size + 1) h1 l1 b y d W q r hl1
  go_enter Try.func23, Try.ntmps23
  go_wp2_with fail
  generalize ((w.alloc (.cells #[.int .i64 h, .int .i64 l, .slice a z.length c] 27)).alloc (.cells #[.int .i64 h1, .int .i64 l1, .slice b y.length d] 27)).alloc (.cells #[.int .i64 0, .int .i64 0, .slice none 0 0] 27) = w1 at *
  refine (hok w1 hx HR.out).mono ?_
  rintro e w2' ⟨rfl, hqq⟩
  by_cases hk : RkOk h l z
  case neg =>
    have HB2 := Lib.hid (chain hb3 (quiet_below hqq))
    have HZ := Lib.hid (hzz.quiet hqq)
    have z0 := HZ.out.m0
    have z1 := HZ.out.m1
    have z2 := HZ.out.m2
    have f0 := HZ.out.frozen 0
    have f1 := HZ.out.frozen 1
    have f2 := HZ.out.frozen 2
    have hlt := HZ.out.lt
    have HT := Lib.hid (tell_false hk)
    have HC := Lib.hid (ar_bad (h := h) (l := l) (z := z) (h1 := h1) (l1 := l1) (y := y) (fun f => hk f.1))
    have HN := Lib.hid (ar_no (h := h) (l := l) (z := z) (h1 := h1) (l1 := l1) (y := y) (by rw [HC.out]; decide))
    clear hb1 hb2 hb3 hx hy hzz hqq hok hok1 hr hl hq hl1 hk
    rw [HT.out]
    go_wp2_with fail
    refine bodyPost_ret (v := .tuple #[.agg #[.int .i64 0, .int .i64 0, .slice none 0 0], .int .i64 1]) (by simp [results, Try.results23, go_sem, z0, z1, z2]) rfl (gives_none HN.out.1 HN.out.2.1 HN.out.2.2 HC.out ?_)
    exact ((HB2.out.setCell (p := ⟨w.heap.size + 1 + 1, 0, none⟩) (by show w.heap.size ≤ w.heap.size + 1 + 1; omega) _).setCell (p := ⟨w.heap.size + 1 + 1, 1, none⟩) (by show w.heap.size ≤ w.heap.size + 1 + 1; omega) _).setCell (p := ⟨w.heap.size + 1 + 1, 2, none⟩) (by show w.heap.size ≤ w.heap.size + 1 + 1; omega) _
  have HT := Lib.hid (tell_true hk)
  rw [HT.out]
  have hx' := hx.quiet hqq
  have hy' := hy.quiet hqq
  have hz' := hzz.quiet hqq
  have hb' := chain hb3 (quiet_below hqq)
  have HR' := Lib.hid (HR.out.quiet hqq)
  have HQ' := Lib.hid (HQ.out.quiet hqq)
  clear hqq hx hy hzz hb1 hb2 hb3
  go_wp2_with fail
  refine (hok1 w2' hy' HQ'.out).mono ?_
  rintro e w2 ⟨rfl, hqq⟩
  have HB2 := Lib.hid (chain hb' (quiet_below hqq))
  have HX := Lib.hid (hx'.quiet hqq)
  have HY := Lib.hid (hy'.quiet hqq)
  have HZ := Lib.hid (hz'.quiet hqq)
  have HR2 := Lib.hid (HR'.out.quiet hqq)
  have HQ2 := Lib.hid (HQ'.out.quiet hqq)
  have c0 := HX.out.m0
  have c1 := HX.out.m1
  have c2 := HX.out.m2
  have d0 := HY.out.m0
  have d1 := HY.out.m1
  have d2 := HY.out.m2
  have z0 := HZ.out.m0
  have z1 := HZ.out.m1
  have z2 := HZ.out.m2
  have f0 := HZ.out.frozen 0
  have f1 := HZ.out.frozen 1
  have f2 := HZ.out.frozen 2
  have hlt := HZ.out.lt
  clear hx' hy' hz' hb' hqq hok hok1 hr hl hq hl1
  by_cases hk1 : RkOk h1 l1 y
  case neg =>
    have HT1 := Lib.hid (tell_false hk1)
    have HC := Lib.hid (ar_bad (h := h) (l := l) (z := z) (h1 := h1) (l1 := l1) (y := y) (fun f => hk1 f.2))
    have HN := Lib.hid (ar_no (h := h) (l := l) (z := z) (h1 := h1) (l1 := l1) (y := y) (by rw [HC.out]; decide))
    clear hk hk1
    rw [HT1.out]
    go_wp2_with fail
    refine bodyPost_ret (v := .tuple #[.agg #[.int .i64 0, .int .i64 0, .slice none 0 0], .int .i64 1]) (by simp [results, Try.results23, go_sem, z0, z1, z2]) rfl (gives_none HN.out.1 HN.out.2.1 HN.out.2.2 HC.out ?_)
    exact ((HB2.out.setCell (p := ⟨w.heap.size + 1 + 1, 0, none⟩) (by show w.heap.size ≤ w.heap.size + 1 + 1; omega) _).setCell (p := ⟨w.heap.size + 1 + 1, 1, none⟩) (by show w.heap.size ≤ w.heap.size + 1 + 1; omega) _).setCell (p := ⟨w.heap.size + 1 + 1, 2, none⟩) (by show w.heap.size ≤ w.heap.size + 1 + 1; omega) _
  have HT1 := Lib.hid (tell_true hk1)
  rw [HT1.out]
  have HKK := Lib.hid (And.intro hk hk1)
  have hh := hk.1.1
  have hh1 := hk1.1.1
  clear hk hk1
  by_cases he : h = h1
  case neg =>
    have HC := Lib.hid (ar_two HKK.out he)
    have HN := Lib.hid (ar_no (h := h) (l := l) (z := z) (h1 := h1) (l1 := l1) (y := y) (by rw [HC.out]; decide))
    have q1 : (h != h1) = true := by simp [he]
    clear he
    go_wp2_with fail
    refine bodyPost_ret (v := .tuple #[.agg #[.int .i64 0, .int .i64 0, .slice none 0 0], .int .i64 2]) (by simp [results, Try.results23, go_sem, z0, z1, z2]) rfl (gives_none HN.out.1 HN.out.2.1 HN.out.2.2 HC.out ?_)
    exact ((HB2.out.setCell (p := ⟨w.heap.size + 1 + 1, 0, none⟩) (by show w.heap.size ≤ w.heap.size + 1 + 1; omega) _).setCell (p := ⟨w.heap.size + 1 + 1, 1, none⟩) (by show w.heap.size ≤ w.heap.size + 1 + 1; omega) _).setCell (p := ⟨w.heap.size + 1 + 1, 2, none⟩) (by show w.heap.size ≤ w.heap.size + 1 + 1; omega) _
  subst he
  have q1 : (h != h) = false := by simp
  obtain ⟨m, rfl⟩ : ∃ m : Nat, h = (m : Int) := ⟨h.toNat, by omega⟩
  have m5 : m ≤ 5 := by omega
  have hzl : z.length ≤ 32 := by rw [HKK.out.1.len]; exact pow5 m5
  have HYZ := Lib.hid (show y.length = z.length by rw [HKK.out.1.len, HKK.out.2.len])
  have HA1 := Lib.hid HKK.out.1.2.2.1
  have HA2 := Lib.hid HKK.out.2.2.2.1
  have u1 := HKK.out.1.1.2.1
  have u2 := HKK.out.2.1.2.1
  have wl : IntKind.i64.wrap (l + l1) = l + l1 := IntWalk.i64_in _ (by omega)
  obtain ⟨lu, hlu⟩ : ∃ lu, l + l1 = lu := ⟨_, rfl⟩
  have HLU := Lib.hid hlu
  clear hh hh1
  go_wp2_with fail
  (try simp only [hlu])
  have hbx := boxes_new w2 #[.int .i64 (m : Int), .int .i64 lu, .slice none 0 0] 27
  have hbl := alloc_b w2 (.cells #[.int .i64 (m : Int), .int .i64 lu, .slice none 0 0] 27)
  generalize w2.alloc (.cells #[.int .i64 (m : Int), .int .i64 lu, .slice none 0 0] 27) = w3 at *
  have HBX0 := Lib.hid hbx
  have HBL0 := Lib.hid hbl
  clear hbx hbl c0 c1 c2 d0 d1 d2 z0 z1 z2 f0 f1 f2 hlu wl q1
  go_loopw [7] (fun i wr => ∃ (j : Nat) (qa : Option Addr) (qc : Nat), i = .int .i64 j ∧ j ≤ z.length ∧ Boxes wr w2.heap.size 27 #[.int .i64 (m : Int), .int .i64 lu, .slice qa j qc] ∧ wr.ownsRow (w2.heap.size + 1) 2 1 (.slice qa j qc) j (vals (numsBy (fun i => nth z i + nth y i) j)) ∧ Below w2.heap.size w2 wr)
    (fun i _ => z.length - (intOf i).toNat)
  case atStart => exact ⟨0, none, 0, rfl, Nat.zero_le _, HBX0.out, OwnI.nil _ _, HBL0.out⟩
  case round =>
    obtain ⟨q, qa, qc, rfl, hj, hbx, how, hbl⟩ := hrel
    have HBX := Lib.hid hbx
    have HOW := Lib.hid how
    have HBL := Lib.hid hbl
    have hsz := hbx.lt
    have hszz := hbl.size
    have e0 := hbx.m0
    have e1 := hbx.m1
    have e2 := hbx.m2
    have d2 := (HX.out.step hbl).m2
    have d3 := (HY.out.step hbl).m2
    have HNE := Lib.hid (show (Value.slice qa q qc).ownBlock ≠ some w2.heap.size from fun e => by have := (row_ltk how e).1; omega)
    clear hbx how HBX0 HBL0
    by_cases hlt2 : q < z.length
    · rcases HR2.out.step hbl with hh | ⟨b1, o1, rfl, hc1⟩
      · rw [hh] at hlt2; exact absurd hlt2 (Nat.not_lt_zero _)
      have hlt3 : q < y.length := by have := HYZ.out; omega
      rcases HQ2.out.step hbl with hh | ⟨b2, o2, rfl, hc2⟩
      · rw [hh] at hlt3; exact absurd hlt3 (Nat.not_lt_zero _)
      have hi0 : (q : Int) < (z.length : Int) := by omega
      have hi1 : (q : Int) < (y.length : Int) := by omega
      have g1 := hc1 q hlt2
      have g2 := hc2 q hlt3
      have HS := Lib.hid (numsBy_succ (fun i => nth z i + nth y i) q)
      have v1 := HA1.out q hlt2
      have v2 := HA2.out q hlt3
      clear hbl hc1 hc2
      obtain ⟨v, hvv⟩ : ∃ v, nth z q + nth y q = v := ⟨_, rfl⟩
      have HVV := Lib.hid hvv
      generalize nth z q = x1 at g1 hvv v1
      generalize nth y q = x2 at g2 hvv v2
      have wv : IntKind.i64.wrap v = v := IntWalk.i64_in _ (by omega)
      have wv2 : x1 + x2 = v := hvv
      clear hvv v1 v2
      generalize hLL : numsBy (fun i => nth z i + nth y i) q = L at *
      have HLL := Lib.hid hLL
      clear hLL
      go_wp2_with fail
      go_region_law (refine step_append_lies _ (by rfl) _ _ 22 (by rfl) (w2.heap.size + 1) 2 i0 (.int .i64 0) 1 8 Try.underlying22 hi hz0 hz1 hz2 (by rfl) (by decide) (.slice qa q qc) q (vals L) (by first | rfl | simp [Act.eval]) (by first | exact World.ownsRow.alloc (row_step HOW.out (drew_step _)) _ | exact World.ownsRow.alloc HOW.out _ | exact row_step (World.ownsRow.alloc HOW.out _) (drew_step _)) ⟨wr.heap.size, 0, none⟩ 1 1 [.int .i64 v] (by first | rfl | simp [Act.eval]) (by rfl) (by first | exact cell_one_new _ _ _ | (intro j u hj; exact cell_one_new wr _ _ j u hj)) (by simp [Value.oneCell']) (by decide) (by unfold maxLen; omega) (by omega) (by simp; omega) _ rfl ?_; intro g cap w8 hown8 hgrow8 hat8 hlt8; have HX8 := Lib.hid (show Boxes w8 w2.heap.size 27 #[.int .i64 (m : Int), .int .i64 lu, .slice qa q qc] by first | exact (HBX.out.step (alloc_b _ _)).grown hgrow8 HNE.out | exact ((HBX.out.step (drew_step _)).step (alloc_b _ _)).grown hgrow8 HNE.out | exact ((HBX.out.step (alloc_b _ _)).step (drew_step _)).grown hgrow8 HNE.out); have HB8 := Lib.hid (show Below w2.heap.size w2 w8 by first | exact (HBL.out.alloc HBL.out.size (.cells #[.int .i64 v] 2)).grown hgrow8 (by have := HBL.out.size; simp; omega) (fun x hx => by have := (row_ltk HOW.out hx).1; omega) | exact ((HBL.out.alloc HBL.out.size (.cells #[.int .i64 v] 2)).drew).grown hgrow8 (by have := HBL.out.size; simp; omega) (fun x hx => by have := (row_ltk HOW.out hx).1; omega) | exact (HBL.out.drew.alloc (by have := HBL.out.size; simp; omega) (.cells #[.int .i64 v] 2)).grown hgrow8 (by have := HBL.out.size; simp; omega) (fun x hx => by have := (row_ltk HOW.out hx).1; omega)); have x2 := HX8.out.m2; have xf := HX8.out.frozen 2; have xl := HX8.out.lt)
      all_goals (
        have HO9 := Lib.hid (show World.ownsRow (w8.setCell ⟨w2.heap.size, 2, none⟩ (.slice (some ⟨g, 0, none⟩) (q + 1) cap)) (w2.heap.size + 1) 2 1 (.slice (some ⟨g, 0, none⟩) (q + 1) cap) (q + 1) (vals L ++ [.int .i64 v]) from row_seta hown8 (by show w2.heap.size < w2.heap.size + 1; omega) _)
        have HX9 := Lib.hid (HX8.out.put2 (.slice (some ⟨g, 0, none⟩) (q + 1) cap))
        have HB9 := Lib.hid (HB8.out.setCell (p := ⟨w2.heap.size, 2, none⟩) (Nat.le_refl _) (.slice (some ⟨g, 0, none⟩) (q + 1) cap))
        clear hown8 hgrow8 hat8 hlt8 x2 xf xl
        go_wp2_with fail
        go_roundw
        case rel => exact ⟨q + 1, some ⟨g, 0, none⟩, cap, by go_num, by omega, HX9.out, by rw [HS.out, vals_snoc]; simp only [HVV.out]; exact HO9.out, HB9.out⟩
        case measure => simp [intOf]; omega)
    · have hi0 : ¬ (q : Int) < (z.length : Int) := by omega
      have HJ := Lib.hid (show q = z.length by omega)
      have HZ3 := Lib.hid (HZ.out.step hbl)
      have z0 := HZ3.out.m0
      have z1 := HZ3.out.m1
      have z2 := HZ3.out.m2
      have f0 := HZ3.out.frozen 0
      have f1 := HZ3.out.frozen 1
      have f2 := HZ3.out.frozen 2
      have hlt3 := HZ3.out.lt
      have HBF := Lib.hid (chain HB2.out hbl)
      have hown : OwnI wr (w2.heap.size + 1) (.slice qa (addZ z y).length qc) (addZ z y) := by
        have := HOW.out
        rw [HJ.out] at this
        unfold OwnI; rw [addZ_len]; exact this
      have HOWN := Lib.hid hown
      have hqa : (addZ z y).length = q := by rw [addZ_len, HJ.out]
      have hBX2 : Boxes wr w2.heap.size 27 #[.int .i64 (m : Int), .int .i64 lu, .slice qa (addZ z y).length qc] := by rw [hqa]; exact HBX.out
      have HBXF := Lib.hid hBX2
      have HLZ := Lib.hid (show LenI (addZ z y) from ⟨by rw [addZ_len]; omega⟩)
      clear hbl hown hqa hBX2
      go_wp2_with fail
      refine (l07Ok_any w2.heap.size (m : Int) lu qa (addZ z y) qc wr HBXF.out (Ints_of_own HOWN.out) HLZ.out).mono ?_
      rintro e w7 ⟨rfl, hq7⟩
      have HBF7 := Lib.hid (chain HBF.out (quiet_below hq7))
      have HZ7 := Lib.hid (HZ3.out.quiet hq7)
      have HO7 := Lib.hid (HOWN.out.step (quiet_below hq7))
      have b0 := (hq7.cell _).trans e0
      have b1 := (hq7.cell _).trans e1
      have b2 := (hq7.cell _).trans e2
      clear z0 z1 z2 f0 f1 f2 e0 e1 e2
      have z0 := HZ7.out.m0
      have z1 := HZ7.out.m1
      have z2 := HZ7.out.m2
      have f0 := HZ7.out.frozen 0
      have f1 := HZ7.out.frozen 1
      have f2 := HZ7.out.frozen 2
      have hlt7 := HZ7.out.lt
      clear hq7
      have HIFF := Lib.hid (show RkOk (m : Int) lu (addZ z y) ↔ FitS l l1 z y by rw [← HLU.out]; exact add_ok HKK.out.1 HKK.out.2)
      by_cases hf : FitS l l1 z y
      · have HT2 := Lib.hid (tell_true (HIFF.out.2 hf))
        have HC := Lib.hid (ar_in HKK.out rfl hf)
        have HN := Lib.hid (ar_yes HC.out)
        clear hf
        rw [HT2.out]
        go_wp2_with fail
        refine bodyPost_ret (v := .tuple #[.agg #[.int .i64 (m : Int), .int .i64 lu, .slice qa q qc], .int .i64 0]) (by simp [results, Try.results23, go_sem, z0, z1, z2]) rfl ?_
        have hs2 : w.heap.size + 1 + 1 < w2.heap.size + 1 := by omega
        have hI := OwnI.mono (((HO7.out.setCell2 (p := ⟨w.heap.size + 1 + 1, 0, none⟩) hs2 (.int .i64 (m : Int))).setCell2 (p := ⟨w.heap.size + 1 + 1, 1, none⟩) hs2 (.int .i64 lu)).setCell2 (p := ⟨w.heap.size + 1 + 1, 2, none⟩) hs2 (.slice qa q qc)) (base' := w.heap.size) (by omega)
        rw [addZ_len, ← HJ.out] at hI
        refine ⟨⟨.slice qa q qc, ?_, ?_⟩, ?_⟩
        · rw [HC.out, HN.out.1, HN.out.2.1, HLU.out]
        · rw [HN.out.2.2]; exact hI
        · exact ((HBF7.out.setCell (p := ⟨w.heap.size + 1 + 1, 0, none⟩) (by show w.heap.size ≤ w.heap.size + 1 + 1; omega) _).setCell (p := ⟨w.heap.size + 1 + 1, 1, none⟩) (by show w.heap.size ≤ w.heap.size + 1 + 1; omega) _).setCell (p := ⟨w.heap.size + 1 + 1, 2, none⟩) (by show w.heap.size ≤ w.heap.size + 1 + 1; omega) _
      · have HT2 := Lib.hid (tell_false (fun f => hf (HIFF.out.1 f)))
        have HC := Lib.hid (ar_big HKK.out rfl hf)
        have HN := Lib.hid (ar_no (h := (m : Int)) (l := l) (z := z) (h1 := (m : Int)) (l1 := l1) (y := y) (by rw [HC.out]; decide))
        clear hf
        rw [HT2.out]
        go_wp2_with fail
        refine bodyPost_ret (v := .tuple #[.agg #[.int .i64 0, .int .i64 0, .slice none 0 0], .int .i64 3]) (by simp [results, Try.results23, go_sem, z0, z1, z2]) rfl (gives_none HN.out.1 HN.out.2.1 HN.out.2.2 HC.out ?_)
        exact ((HBF7.out.setCell (p := ⟨w.heap.size + 1 + 1, 0, none⟩) (by show w.heap.size ≤ w.heap.size + 1 + 1; omega) _).setCell (p := ⟨w.heap.size + 1 + 1, 1, none⟩) (by show w.heap.size ≤ w.heap.size + 1 + 1; omega) _).setCell (p := ⟨w.heap.size + 1 + 1, 2, none⟩) (by show w.heap.size ≤ w.heap.size + 1 + 1; omega) _
end Go.Proofs.Ytdfggbojccfblaa

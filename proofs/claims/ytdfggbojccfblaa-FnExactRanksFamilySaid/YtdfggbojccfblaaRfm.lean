/- RanksFamily of the model. -/
import Derived.Test.YtdfggbojccfblaaRf0
namespace Go.Proofs.Ytdfggbojccfblaa
open Go.RowKit Go.Deep Go.Shelf
set_option linter.unusedVariables false

set_option maxHeartbeats 4000000 in
set_option maxRecDepth 100000 in
theorem specRf_any (h l : Int) (a : Option Addr) (z : List Int) (c : Nat) (b : Option Addr) (g : List Int) (d : Nat) (w : World) (hr : Ints w a z) (hl : LenI z) (hi : Ints w b g) (hgl : g.length ≤ 9223372036854775807) :
    Calls Try.prog 29 #[.agg #[.int .i64 h, .int .i64 l, .slice a z.length c], .slice b g.length d] w (GivesFC w (rfOf h l z g)) := by
  obtain ⟨i0, hii, hz0, hz1, hz2⟩ := info_parts Try.infoInt64S
  have hb1 := (Below.refl w.heap.size w).alloc (Nat.le_refl _) (.cells #[.int .i64 h, .int .i64 l, .slice a z.length c] 27)
  have hb2 := hb1.alloc (by simp) (.cells #[.int .i64 0, .slice none 0 0] 46)
  have hx := (boxes_new w #[.int .i64 h, .int .i64 l, .slice a z.length c] 27).step (alloc_b _ (.cells #[.int .i64 0, .slice none 0 0] 46))
  have hzz := boxes_new (w.alloc (.cells #[.int .i64 h, .int .i64 l, .slice a z.length c] 27)) #[.int .i64 0, .slice none 0 0] 46
  rw [World.size_alloc] at hzz
  have HR := Lib.hid (hr.step hb2)
  have HI := Lib.hid (hi.step hb2)
  have hok := fun W (q : Boxes W w.heap.size 27 #[.int .i64 h, .int .i64 l, .slice a z.length c]) (r : Ints W a z) => l07Ok_any w.heap.size h l a z c W q r hl
  go_enter Try.func29, Try.ntmps29
  go_wp2_with fail
  generalize (w.alloc (.cells #[.int .i64 h, .int .i64 l, .slice a z.length c] 27)).alloc (.cells #[.int .i64 0, .slice none 0 0] 46) = w1 at *
  refine (hok w1 hx HR.out).mono ?_
  rintro e w2 ⟨rfl, hq⟩
  have HB2 := Lib.hid (chain hb2 (quiet_below hq))
  have HX := Lib.hid (hx.step (quiet_below hq))
  have HZ := Lib.hid (hzz.step (quiet_below hq))
  have HR2 := Lib.hid (HR.out.step (quiet_below hq))
  have HI2 := Lib.hid (HI.out.step (quiet_below hq))
  have c0 := HX.out.m0
  have c1 := HX.out.m1
  have c2 := HX.out.m2
  have z0 := HZ.out.c0
  have z1 := HZ.out.c1
  have f0 := HZ.out.frozen 0
  have f1 := HZ.out.frozen 1
  have hlt := HZ.out.lt
  have hlx := HX.out.lt
  clear hb1 hb2 hx hzz hq hok hr hl hi
  by_cases hk : RkOk h l z
  case neg =>
    have HT := Lib.hid (tell_false hk)
    have HV := Lib.hid (rf_bad (g := g) hk)
    clear hk
    rw [HT.out]
    go_wp2_with fail
    refine bodyPost_ret (v := .tuple #[.agg #[.int .i64 0, .slice none 0 0], .int .i64 1]) (by simp [results, Try.results29, go_sem, z0, z1]) rfl ?_
    rw [HV.out]
    exact GivesFC.no _ ((HB2.out.setCell (p := ⟨w.heap.size + 1, 0, none⟩) (by show w.heap.size ≤ w.heap.size + 1; omega) _).setCell (p := ⟨w.heap.size + 1, 1, none⟩) (by show w.heap.size ≤ w.heap.size + 1; omega) _)
  have hh := hk.1.1
  obtain ⟨m, rfl⟩ : ∃ m : Nat, h = (m : Int) := ⟨h.toNat, by omega⟩
  have m1 : 1 ≤ m := by omega
  have m5 : m ≤ 5 := by omega
  have HK := Lib.hid hk
  have HT := Lib.hid (tell_true hk)
  clear hk hh
  rw [HT.out]
  go_wp2_with fail
  refine (l00Rises_any b g d 0 ((m : Int) - 1) w2 HI2.out hgl).mono ?_
  rintro e w3 ⟨rfl, hq⟩
  have HB3 := Lib.hid (chain HB2.out (quiet_below hq))
  have HX3 := Lib.hid (HX.out.quiet hq)
  have HZ3 := Lib.hid (HZ.out.quiet hq)
  have HR3 := Lib.hid (HR2.out.quiet hq)
  have HI3 := Lib.hid (HI2.out.quiet hq)
  clear hq c0 c1 c2 z0 z1 f0 f1 hlt
  have c0 := HX3.out.m0
  have c1 := HX3.out.m1
  have c2 := HX3.out.m2
  have z0 := HZ3.out.c0
  have z1 := HZ3.out.c1
  have f0 := HZ3.out.frozen 0
  have f1 := HZ3.out.frozen 1
  have hlt := HZ3.out.lt
  by_cases hg : IsGrp (m : Int) g
  case neg =>
    have HT2 := Lib.hid (show tell (Rises 0 ((m : Int) - 1) g) = false from tell_false hg)
    have HV := Lib.hid (rf_out HK.out hg)
    clear hg
    rw [HT2.out]
    go_wp2_with fail
    refine bodyPost_ret (v := .tuple #[.agg #[.int .i64 0, .slice none 0 0], .int .i64 2]) (by simp [results, Try.results29, go_sem, z0, z1]) rfl ?_
    rw [HV.out]
    exact GivesFC.no _ ((HB3.out.setCell (p := ⟨w.heap.size + 1, 0, none⟩) (by show w.heap.size ≤ w.heap.size + 1; omega) _).setCell (p := ⟨w.heap.size + 1, 1, none⟩) (by show w.heap.size ≤ w.heap.size + 1; omega) _)
  have HT2 := Lib.hid (show tell (Rises 0 ((m : Int) - 1) g) = true from tell_true hg)
  have HV := Lib.hid (rf_in HK.out hg)
  obtain ⟨n, hn⟩ : ∃ n, 2 ^ m = n := ⟨_, rfl⟩
  have hn32 : n ≤ 32 := by rw [← hn]; exact pow5 m5
  have HN := Lib.hid hn
  have HZL := Lib.hid (show z.length = n by rw [HK.out.len, hn])
  have hgx : bitsOf g < n := by rw [← hn]; exact bitsOf_ltP hg
  have HLB := Lib.hid (fun W (k : Ints W b g) => l07Bits_any b g d (m : Int) W k hg (by omega) hgl)
  generalize bitsOf g = gx at *
  clear hg hn
  rw [HT2.out]
  go_wp2_with fail
  refine (HLB.out w3 HI3.out).mono ?_
  rintro e w3' ⟨rfl, rfl⟩
  go_wp2_with fail
  have hB0 := (Below.refl w3.heap.size w3).alloc (Nat.le_refl _) (.cells #[] 22)
  have hR0 : (w3.alloc (.cells #[] 22)).ownsRow w3.heap.size 22 1 (.slice (some ⟨w3.heap.size, 0, none⟩) 0 0) 0 [] := by
    have := World.ownsRow_made w3 #[] 0 (e := 22) (size := 1) (Nat.le_refl _) (by unfold maxLen; omega) rfl
    simpa using this
  generalize w3.alloc (.cells #[] 22) = w4 at *
  clear c0 c1 c2 z0 z1 f0 f1
  go_loopw [7, 8] (fun v i wr => ∃ (k g cap : Nat) (ps : List (Value × List Int)), k ≤ n ∧ i = .int .i64 k ∧ v = .slice (some ⟨g, 0, none⟩) ps.length cap ∧ ps.map Prod.snd = ((List.range k).filter (rfP z gx)).map listOf ∧ wr.ownsRow w3.heap.size 22 1 (.slice (some ⟨g, 0, none⟩) ps.length cap) ps.length (ps.map Prod.fst) ∧ PairsIn wr w3.heap.size ps ∧ Below w3.heap.size w3 wr)
    (fun _ i _ => n - (intOf i).toNat)
  case atStart => exact ⟨0, _, _, [], by omega, rfl, rfl, rfl, hR0, (fun q hq => by cases hq), hB0⟩
  case round =>
    obtain ⟨k, g', cap, ps, hk, rfl, rfl, hps, hrow, hin, hbel⟩ := hrel
    clear hB0 hR0
    have hpl : ps.length ≤ k := by
      have := congrArg List.length hps
      rw [List.length_map] at this
      rw [this]; exact picked_len _ _
    have HP := Lib.hid hps
    have HRR := Lib.hid hrow
    have HIN := Lib.hid hin
    have HBW := Lib.hid hbel
    have hszr := hbel.size
    have c0 := (HX3.out.step hbel).m0
    have c2 := (HX3.out.step hbel).m2
    clear hps hrow hin
    by_cases hlt2 : k < n
    · have hki : (k : Int) < (z.length : Int) := by rw [HZL.out]; omega
      have hkz : k < z.length := by rw [HZL.out]; exact hlt2
      obtain ⟨q, hq⟩ : ∃ q, k ||| gx = q := ⟨_, rfl⟩
      have hqz : q < z.length := by rw [HZL.out, ← HN.out, ← hq]; exact Nat.or_lt_two_pow (by rw [HN.out]; exact hlt2) (by rw [HN.out]; exact hgx)
      have hqi : (q : Int) < (z.length : Int) := by omega
      have eo : bits BinOp.or IntKind.i64 (k : Int) (gx : Int) = (q : Int) := by rw [← hq]; exact i64_or_nat _ _ (by omega) (by omega)
      rcases HR3.out.step hbel with hh | ⟨bb, oo, rfl, hc⟩
      · rw [hh] at hkz; exact absurd hkz (Nat.not_lt_zero _)
      have g1 := hc k hkz
      have g2 := hc q hqz
      have HPV := Lib.hid (show rfP z gx k = tell (nth z q = nth z k) by unfold rfP; rw [hq])
      generalize nth z k = x1 at *
      generalize nth z q = x2 at *
      clear hc hbel hq
      by_cases he : x2 = x1
      · have t1 : (x2 == x1) = true := by simp [he]
        have HLB2 := Lib.hid (show rfP z gx k = true by rw [HPV.out]; exact tell_true he)
        clear he
        go_wp2
        go_big_quiet (fail)
        go_wp2_with fail
        refine (l06Holders_any k m _ m5 (by rw [HN.out]; exact hlt2)).mono ?_
        rintro e w' ⟨⟨u, rfl, hu⟩, hb⟩
        obtain ⟨ua, uc, rfl⟩ := hu.form
        have hb' : Below wr.heap.size wr w' := (quiet_below ⟨_, rfl⟩).trans (by simpa using hb)
        have hu' : OwnI w' wr.heap.size (.slice ua (listOf k).length uc) (listOf k) := by simpa using hu
        have hsz' := Nat.le_trans hszr hb'.size
        have HU := Lib.hid hu'
        have HBX := Lib.hid hb'
        have HROW' := Lib.hid (row_step HRR.out hb')
        clear hu hu' hb hb' c0 c2 g1 g2
        go_wp2_with (at_builtin; refine wpList_append_own _ rfl _ _ 44 rfl w3.heap.size 22 i0 (.slice none 0 0) 1 24 Try.underlying44 hii hz0 hz1 hz2 rfl (by decide) _ _ _ rfl (World.ownsRow.alloc HROW'.out _) ⟨w'.heap.size, 0, none⟩ 1 1 [.slice ua (listOf k).length uc] rfl rfl (cell_one_new _ _ _) (by simp [Value.oneCell']) (by unfold maxLen; omega) (by omega) (by simp; omega) ?_; intro v' w1 hown2 hgrow2 _; obtain ⟨g', cap', rfl⟩ := ownsRow_succ hown2; have HO2 := Lib.hid hown2; have HG2 := Lib.hid hgrow2; clear hown2 hgrow2)
        go_roundw
        case rel =>
          refine ⟨k + 1, _, _, ps ++ [(.slice ua (listOf k).length uc, listOf k)], by omega, by go_num, by rw [List.length_append]; rfl, ?_, ?_, fun q hq => ?_, ?_⟩
          · rw [picked_hit HLB2.out, List.map_append, HP.out]; rfl
          · rw [List.map_append, List.length_append]; exact HO2.out
          · have hq' : OwnI w' w3.heap.size q.1 q.2 := by
              rcases List.mem_append.1 hq with h2 | h2
              · exact (HIN.out q h2).step HBX.out
              · obtain rfl := List.mem_singleton.1 h2
                exact HU.out.mono hszr
            exact (World.ownsRow.alloc hq' _).kept HG2.out (rows_apart hq' HROW'.out (by decide))
          · exact ((HBW.out.trans (HBX.out.mono hszr)).alloc hsz' _).grown HG2.out (by simp; omega) (fun q hq => by have := (World.ownsRow.lt HROW'.out q hq).1; omega)
        case measure => simp [intOf]; omega
      · have t1 : (x2 == x1) = false := by simp [he]
        have HLB2 := Lib.hid (show rfP z gx k = false by rw [HPV.out]; exact tell_false he)
        clear he
        go_wp2
        go_big_quiet (fail)
        go_wp2_with fail
        go_roundw
        case rel => exact ⟨k + 1, g', cap, ps, by omega, by go_num, rfl, by rw [picked_miss HLB2.out]; exact HP.out, row_step HRR.out (quiet_below ⟨_, rfl⟩), HIN.out.step (quiet_below ⟨_, rfl⟩), chain HBW.out (quiet_below ⟨_, rfl⟩)⟩
        case measure => simp [intOf]; omega
    · have hki : ¬ (k : Int) < (z.length : Int) := by rw [HZL.out]; omega
      have HKN := Lib.hid (show k = n by omega)
      have HPN := Lib.hid (show ps.map Prod.snd = ((List.range (2 ^ m)).filter (rfP z gx)).map listOf by rw [HP.out, HKN.out, HN.out])
      have hro := (rows2_of rfl HRR.out HIN.out).rows
      have hlen : (((List.range (2 ^ m)).filter (rfP z gx)).map listOf).length = ps.length := by rw [← HPN.out, List.length_map]
      rw [HPN.out] at hro
      have HRO := Lib.hid hro
      have HLEN := Lib.hid hlen
      have HGOF := Lib.hid (rf_gof HK.out (g := gx) (by rw [HN.out]; exact hgx))
      have HSM := Lib.hid (rf_gsmall (rfP z gx) (n := 2 ^ m) (by rw [HN.out]; omega))
      have HZ4 := Lib.hid (HZ3.out.step hbel)
      have HB4 := Lib.hid (chain HB3.out hbel)
      have HSZ := Lib.hid (show w3.heap.size ≤ wr.heap.size from hszr)
      clear hbel hro hlen
      go_wp2_with fail
      rw [← HLEN.out]
      refine (specGof_any (m : Int) (some ⟨g', 0, none⟩) _ cap wr HRO.out HSM.out).mono ?_
      rintro e w7 ⟨hv7, hb7⟩
      rw [HGOF.out] at hv7
      obtain ⟨a7, c7, rfl, hrf⟩ := hv7
      have HRF := Lib.hid hrf
      have HZ7 := Lib.hid (HZ4.out.step hb7)
      have HB7 := Lib.hid (chain HB4.out hb7)
      have z0 := HZ7.out.c0
      have z1 := HZ7.out.c1
      have f0 := HZ7.out.frozen 0
      have f1 := HZ7.out.frozen 1
      have hlt7 := HZ7.out.lt
      have hlz := HZ4.out.lt
      clear hb7 hrf c0 c2
      go_wp2_with fail
      refine bodyPost_ret (v := .tuple #[.agg #[.int .i64 (m : Nat), .slice a7 (famOf m (rfP z gx)).length c7], .int .i64 0]) (by simp [results, Try.results29, go_sem, z0, z1]) rfl ?_
      rw [HV.out]
      exact ⟨⟨a7, c7, rfl, ((HRF.out.set hlz 0 _).set hlz 1 _).mono (by omega)⟩, ((HB7.out.setCell (p := ⟨w.heap.size + 1, 0, none⟩) (by show w.heap.size ≤ w.heap.size + 1; omega) _).setCell (p := ⟨w.heap.size + 1, 1, none⟩) (by show w.heap.size ≤ w.heap.size + 1; omega) _)⟩
end Go.Proofs.Ytdfggbojccfblaa

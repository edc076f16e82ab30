/- OpeningGroups, the model's and the program's. -/
import Derived.Test.YtpkflamhniidiaaDoorTbl
import Derived.Test.YtpkflamhniidiaaDoorTof
import Derived.Test.YtpkflamhniidiaaDoorNeed
import Derived.Test.YtpkflamhniidiaaDoorLawR
namespace Go.Proofs.YtpkflamhniidiaaDoor
open Go.RowKit Go.Deep Go.Shelf
set_option linter.unusedVariables false

noncomputable def ogOf (h : Int) (zss : List (List Int)) : List (List Int) := if tell (FamOk h zss) = true then pickOf (tblAt zss zss.length) (lexAll h.toNat) else []
theorem og_small (h : Int) (zss : List (List Int)) : Small2 (ogOf h zss) := by
  unfold ogOf
  split
  · rename_i k
    have := (of_tell k).1
    exact famOf_small (by omega) _
  · exact lens_small (by simp) (by simp)
theorem Og_same {m : Nat} (zss : List (List Int)) (h7 : m ≤ 7) : pickOf (tblAt zss zss.length) (lexAll m) = pickOf (tabOf (m : Int) zss) (lexAll m) :=
  pickOf_congr fun y hy => by unfold tabOf; rw [Int.toNat_natCast]; exact (seenBy_all h7 _ ((mem_lex h7 y).1 hy)).symm
theorem opensO_chooses (T h : Nat) (q : Nat → Bool) (w : World) (ht : TableAt w T h q) : Chooses w 80 #[.pointer (some ⟨T, 0, none⟩)] #[] q := by
  refine ⟨enters_of Tryd.func80 (by kernel_rfl) rfl, fun x W hb => ?_⟩
  show Calls Tryd.prog 80 #[.pointer (some ⟨T, 0, none⟩), .int .u64 (x.val : Int)] W _
  have hT : TableAt W T h q := ht.below hb (World.block_lt_of_cell? _ _ ht.h0)
  refine (opens_any T h x.val q W x.isLt hT).mono ?_
  rintro e w' ⟨rfl, rfl⟩
  exact ⟨rfl, Below.refl _ _⟩

set_option maxHeartbeats 2000000 in
set_option maxRecDepth 100000 in
theorem specOg_any (h : Int) (a : Option Addr) (zss : List (List Int)) (c : Nat) (w : World) (hr : Rows2 w a zss) (hl : Small2 zss) :
    Calls Tryd.prog 31 #[.agg #[.int .i64 h, .slice a zss.length c]] w (GivesRX w (ogOf h zss) (okCode h zss)) := by
  have hb1 := (Below.refl w.heap.size w).alloc (Nat.le_refl _) (.cells #[.int .i64 h, .slice a zss.length c] 27)
  have hbox : FamBox (w.alloc (.cells #[.int .i64 h, .slice a zss.length c] 27)) w.heap.size h a zss.length c := ⟨by simp, by simp⟩
  have hR1 := Lib.hid (hr.step hb1)
  have HX := Lib.hid hbox
  have HL := Lib.hid hl.lens
  have HB := Lib.hid hb1
  clear hr hl hbox hb1
  cases hf : tell (FamOk h zss) with
  | false =>
    have HF := Lib.hid hf
    clear hf
    go_enter Tryd.func31, Tryd.ntmps31
    go_wp2_with fail
    refine (l01Ok_any w.heap.size h a zss c _ HX.out hR1.out HL.out).mono ?_
    generalize w.alloc (.cells #[.int .i64 h, .slice a zss.length c] 27) = w1 at *
    rintro e w' ⟨rfl, hq⟩
    rw [HF.out]
    have HB2 := Lib.hid (chain HB.out (quiet_below hq))
    have hsz := HB2.out.size
    clear hq
    go_wp2_with fail
    go_ret2
    rw [show okCode h zss = 1 by rw [okCode, HF.out]; rfl, show ogOf h zss = [] by rw [ogOf, HF.out]; rfl]
    exact ⟨⟨_, _, rfl, .inl rfl⟩, HB2.out.alloc hsz _⟩
  | true =>
    have HFO := Lib.hid (of_tell hf)
    have HF := Lib.hid hf
    have hh1 : 1 ≤ h := HFO.out.1.1
    have hh7 : h ≤ 7 := HFO.out.1.2
    clear hf
    obtain ⟨m, rfl⟩ : ∃ m : Nat, h = (m : Int) := ⟨h.toNat, by omega⟩
    have m1 : 1 ≤ m := by omega
    have m7 : m ≤ 7 := by omega
    obtain ⟨n, hn⟩ : ∃ n, n = 2 ^ m := ⟨_, rfl⟩
    have hn128 : n ≤ 128 := by rw [hn]; exact Nat.pow_le_pow_right (by decide) m7
    have HN := Lib.hid hn
    have HV := Lib.hid (show ogOf (m : Int) zss = pickOf ((tblAt zss zss.length)) (lexAll m) by rw [ogOf, HF.out, Int.toNat_natCast]; rfl)
    have HC0 := Lib.hid (show okCode (m : Int) zss = 0 by rw [okCode, HF.out]; rfl)
    obtain ⟨i0, hi, hz0, hz1, hz2⟩ := info_parts Tryd.infoInt64S
    clear hn
    go_enter Tryd.func31, Tryd.ntmps31
    go_wp2_with fail
    refine (l01Ok_any w.heap.size (m : Int) a zss c _ HX.out hR1.out HL.out).mono ?_
    generalize w.alloc (.cells #[.int .i64 (m : Int), .slice a zss.length c] 27) = w1 at *
    rintro e w2 ⟨rfl, hq⟩
    rw [HF.out]
    have HB2 := Lib.hid (chain HB.out (quiet_below hq))
    have HR2 := Lib.hid (hR1.out.quiet hq)
    have HX2 := Lib.hid (HX.out.quiet hq)
    clear hq
    go_wp2_with fail
    refine (l01Table_any m n w.heap.size a zss c w2 m1 m7 HN.out HX2.out HR2.out HL.out (fun i hi => (HFO.out.2.1 i hi).1)).mono ?_
    rintro e w3 ⟨rfl, hbo, hb3⟩
    have hs3 := hb3.size
    have HX3 := Lib.hid (HX2.out.below hb3 (Nat.le_refl _))
    have HB3 := Lib.hid (chain HB2.out hb3)
    have HBO := Lib.hid hbo
    clear hbo hb3
    generalize tblAt zss zss.length = p at *
    generalize w2.heap.size = tb at *
    go_wp2_with fail
    have hB0 := (Below.refl w3.heap.size w3).alloc (Nat.le_refl _) (.cells #[] 35)
    have hR0 : (w3.alloc (.cells #[] 35)).ownsRow w3.heap.size 35 1 (.slice (some ⟨w3.heap.size, 0, none⟩) 0 0) 0 [] := by
      have := World.ownsRow_made w3 #[] 0 (e := 35) (size := 1) (Nat.le_refl _) (by unfold maxLen; omega) rfl
      simpa using this
    generalize w3.alloc (.cells #[] 35) = w4 at *
    go_loopw [5, 6] (fun v i wr => ∃ (k : Nat) (g cap : Nat) (ps : List (Value × List Int)), k ≤ n ∧ i = .int .i64 k ∧ v = .slice (some ⟨g, 0, none⟩) ps.length cap ∧ ps.map Prod.snd = ((List.range k).filter (p)).map listOf ∧ wr.ownsRow w3.heap.size 35 1 (.slice (some ⟨g, 0, none⟩) ps.length cap) ps.length (ps.map Prod.fst) ∧ PairsIn wr w3.heap.size ps ∧ Below w3.heap.size w3 wr)
      (fun _ i _ => n - (intOf i).toNat)
    case atStart => exact ⟨0, _, _, [], by omega, rfl, rfl, rfl, hR0, (fun q hq => by cases hq), hB0⟩
    case round =>
      obtain ⟨k, g, cap, ps, hk, rfl, rfl, hps, hrow, hin, hbel⟩ := hrel
      clear hB0 hR0
      have hpl : ps.length ≤ k := by
        have := congrArg List.length hps
        rw [List.length_map] at this
        rw [this]; exact picked_len _ _
      have HP := Lib.hid hps
      have HR := Lib.hid hrow
      have HI := Lib.hid hin
      have HBW := Lib.hid hbel
      have hszr := hbel.size
      have q0 := (HX3.out.below hbel (Nat.le_refl _)).1
      clear hps hrow hin
      by_cases hlt : k < n
      · have hki : (k : Int) < (n : Int) := by omega
        have hk128 : k < 128 := by omega
        obtain ⟨bb, oo, he, hc⟩ := HBO.out.step hbel
        cases he
        have hck : wr.cell? ⟨tb, k, none⟩ = some (.bool (p k)) := by simpa using hc k hlt
        clear hc hbel q0
        cases hp : p k with
        | true =>
          rw [hp] at hck
          have HLB := Lib.hid hp
          clear hp
          go_wp2_with (first
            | (go_at_call 81; (refine (l01Of_any k _ hk128).mono ?_; rintro e w' ⟨⟨u, rfl, hu⟩, hb⟩; obtain ⟨ua, uc, rfl⟩ := hu.form; have hsz' := Nat.le_trans hszr hb.size; have HU := Lib.hid hu; have HBX := Lib.hid hb; have HROW' := Lib.hid (row_step HR.out hb); clear hu hb hck))
            | (at_builtin; refine wpList_append_own _ rfl _ _ 22 rfl w3.heap.size 35 i0 (.slice none 0 0) 1 24 Tryd.underlying22 hi hz0 hz1 hz2 rfl (by decide) _ _ _ rfl (World.ownsRow.alloc HROW'.out _) ⟨w'.heap.size, 0, none⟩ 1 1 [.slice ua (listOf k).length uc] rfl rfl (cell_one_new _ _ _) (by simp [Value.oneCell']) (by unfold maxLen; omega) (by omega) (by simp; omega) ?_; intro v' w1 hown2 hgrow2 _; obtain ⟨g', cap', rfl⟩ := ownsRow_succ hown2; have HO2 := Lib.hid hown2; have HG2 := Lib.hid hgrow2; clear hown2 hgrow2))
          go_roundw
          case rel =>
            refine ⟨k + 1, g', cap', ps ++ [(.slice ua (listOf k).length uc, listOf k)], by omega, by go_num, by rw [List.length_append]; rfl, ?_, ?_, fun q hq => ?_, ?_⟩
            · rw [picked_hit HLB.out, List.map_append, HP.out]; rfl
            · rw [List.map_append, List.length_append]; exact HO2.out
            · have hq' : OwnI w' w3.heap.size q.1 q.2 := by
                rcases List.mem_append.1 hq with h2 | h2
                · exact (HI.out q h2).step HBX.out
                · obtain rfl := List.mem_singleton.1 h2
                  exact HU.out.mono hszr
              exact (World.ownsRow.alloc hq' _).kept HG2.out (rows_apart hq' HROW'.out (by decide))
            · exact ((HBW.out.trans (HBX.out.mono hszr)).alloc hsz' _).grown HG2.out (by simp; omega) (fun q hq => by have := (HROW'.out.lt q hq).1; omega)
          case measure => simp [intOf]; omega
        | false =>
          rw [hp] at hck
          have HLB := Lib.hid hp
          clear hp
          go_wp2_with fail
          go_roundw
          case rel => exact ⟨k + 1, g, cap, ps, by omega, by go_num, rfl, by rw [picked_miss HLB.out]; exact HP.out, HR.out, HI.out, HBW.out⟩
          case measure => simp [intOf]; omega
      · have HK := Lib.hid (show k = n by omega)
        clear hbel q0
        go_wp2_with fail
        refine (l01Sorted_any g cap w3.heap.size ps wr HR.out HI.out (by omega)).mono ?_
        rintro e w' ⟨rfl, hrow, hin, hb⟩
        have hso := sorts_of ps
        rw [HP.out, HK.out, HN.out] at hso
        have hfo := sorted_pick m7 _ hso
        have HFO := Lib.hid (show pickOf (p) (lexAll m) = (sortFrom ltP (ps.length - 1) 1 ps).map Prod.snd from hfo.symm)
        have HSL := Lib.hid (show (sortFrom ltP (ps.length - 1) 1 ps).length = ps.length by
          have := congrArg List.length HFO.out
          have h2 := hso.1.length_eq
          rw [List.length_map] at h2
          rw [h2, ← HN.out, ← HK.out, ← HP.out, List.length_map])
        have HR2 := Lib.hid hrow
        have HI2 := Lib.hid hin
        have HB5 := Lib.hid hb
        clear hrow hin hb hso hfo
        generalize sortFrom ltP (ps.length - 1) 1 ps = S at *
        go_wp2_with fail
        go_ret2
        rw [HV.out, HC0.out, HFO.out]
        refine ⟨⟨some ⟨g, 0, none⟩, cap, ?_, ?_⟩, ?_⟩
        · rw [List.length_map, HSL.out]; rfl
        · exact (rows2_of HSL.out HR2.out HI2.out).mono HB3.out.size
        · exact HB3.out.trans ((HBW.out.trans HB5.out).mono HB3.out.size)

set_option maxHeartbeats 1000000 in
set_option maxRecDepth 100000 in
theorem implOg_any (h : Int) (a : Option Addr) (zss : List (List Int)) (c : Nat) (w : World) (hr : Rows2 w a zss) (hl : Small2 zss) :
    Calls Tryd.prog 32 #[.agg #[.int .i64 h, .slice a zss.length c]] w (GivesRY w (ogOf h zss) (okCode h zss)) := by
  have hb1 := (Below.refl w.heap.size w).alloc (Nat.le_refl _) (.cells #[.int .i64 h, .slice a zss.length c] 27)
  have c0 : (w.alloc (.cells #[.int .i64 h, .slice a zss.length c] 27)).cell? ⟨w.heap.size, 0, none⟩ = some (.int .i64 h) := by simp
  have hlt0 : w.heap.size < (w.alloc (.cells #[.int .i64 h, .slice a zss.length c] 27)).heap.size := by simp
  have HR := Lib.hid (hr.step hb1)
  have HL := Lib.hid hl
  have HB := Lib.hid hb1
  clear hr hl hb1
  cases hf : tell (FamOk h zss) with
  | false =>
    have HFO := Lib.hid (of_tell_false hf)
    have HF := Lib.hid hf
    clear hf
    go_enter Tryd.func32, Tryd.ntmps32
    go_wp2_with fail
    refine (tableOf_any h a zss c _ HR.out HL.out).mono ?_
    generalize w.alloc (.cells #[.int .i64 h, .slice a zss.length c] 27) = w1 at *
    rintro e w2 ⟨-, hn, hb⟩
    obtain rfl := hn HFO.out
    have HB2 := Lib.hid (chain HB.out hb)
    clear hn hb
    go_wp2_with fail
    go_ret2
    rw [show okCode h zss = 1 by rw [okCode, HF.out]; rfl, show ogOf h zss = [] by rw [ogOf, HF.out]; rfl]
    exact ⟨⟨_, [], rfl, ⟨World.ownsRow_nil _ _ _ _, RowsOwn.nil _ _⟩⟩, HB2.out⟩
  | true =>
    have HFO := Lib.hid (of_tell hf)
    have HF := Lib.hid hf
    have hh1 : 1 ≤ h := HFO.out.1.1
    have hh7 : h ≤ 7 := HFO.out.1.2
    clear hf
    obtain ⟨m, rfl⟩ : ∃ m : Nat, h = (m : Int) := ⟨h.toNat, by omega⟩
    have m1 : 1 ≤ m := by omega
    have m7 : m ≤ 7 := by omega
    have HV := Lib.hid (show ogOf (m : Int) zss = pickOf ((tabOf (m : Int) zss)) (lexAll m) by rw [ogOf, HF.out, Int.toNat_natCast]; exact Og_same zss m7)
    have HC0 := Lib.hid (show okCode (m : Int) zss = 0 by rw [okCode, HF.out]; rfl)
    go_enter Tryd.func32, Tryd.ntmps32
    go_wp2_with fail
    refine (tableOf_any (m : Int) a zss c _ HR.out HL.out).mono ?_
    generalize w.alloc (.cells #[.int .i64 (m : Int), .slice a zss.length c] 27) = w1 at *
    rintro e w2 ⟨hy, -, hb⟩
    obtain ⟨T, rfl, hT, htab⟩ := hy HFO.out
    rw [Int.toNat_natCast] at htab
    have HTA := Lib.hid htab
    have d0 := (hb.cell (p := ⟨w.heap.size, 0, none⟩) hlt0).trans c0
    have HB2 := Lib.hid (chain HB.out hb)
    clear htab hy hb c0
    generalize tabOf (m : Int) zss = q at *
    go_wp2_with fail
    refine (groupsBy_any m _ #[.pointer (some ⟨T, 0, none⟩)] #[] (q) w2 m1 m7 (fun W hb => opensO_chooses T m q W (HTA.out.below hb (World.block_lt_of_cell? _ _ HTA.out.h0)))).mono ?_
    rintro e w3 ⟨⟨v, us, rfl, hrow, hrows⟩, hb⟩
    have HRW := Lib.hid hrow
    have HRS := Lib.hid hrows
    have HB3 := Lib.hid (chain HB2.out hb)
    clear hrow hrows hb d0
    go_wp2_with fail
    go_ret2
    rw [HV.out, HC0.out]
    exact ⟨⟨_, us, rfl, (Own.lower ⟨HRW.out, HRS.out⟩ HB2.out.size)⟩, HB3.out⟩
end Go.Proofs.YtpkflamhniidiaaDoor

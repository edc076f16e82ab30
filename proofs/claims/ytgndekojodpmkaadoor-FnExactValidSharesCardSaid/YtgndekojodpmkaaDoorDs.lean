/- DealShares, both. -/
import Derived.Test.YtgndekojodpmkaaDoorDl
import Derived.Test.YtgndekojodpmkaaDoorPts
import Derived.Deep.RegionLaw
import Derived.Deep.AppendLies
namespace Go.Proofs.YtgndekojodpmkaaDoor
open Go.RowKit Go.Deep
set_option linter.unusedVariables false

theorem OwnSh.nil (w : World) (base : Nat) : OwnSh w base (.slice none 0 0) 0 [] := World.ownsRow_nil _ _ _ _
theorem own_madeSh (w : World) : OwnSh (w.alloc (.cells #[] 91)) w.heap.size (.slice (some ⟨w.heap.size, 0, none⟩) 0 0) 0 [] := World.ownsRow_made w #[] 0 (Nat.le_refl _) (by unfold maxLen; omega) rfl

set_option maxRecDepth 100000 in
set_option maxHeartbeats 2000000 in
theorem l05Deal_any (p : Int) (a b : Option Addr) (cz zs : List Int) (c d : Nat) (w : World) (h : Ints w a cz) (k : Ints w b zs) (hcl : cz.length ≤ 1000) (hl : zs.length ≤ 1000) (hp : 2 ≤ p) (hp1 : p ≤ 31) (hx : Elems p zs) (he : Elems p cz) :
    Calls Tryd.prog 65 #[.int .i64 p, .slice a cz.length c, .slice b zs.length d] w fun e w' => (∃ v, e = .returned v ∧ OwnSh w' w.heap.size v zs.length (dealt (fun x => hor p x cz.reverse) zs)) ∧ Below w.heap.size w w' := by
  have HI := Lib.hid k
  have HC := Lib.hid h
  have HX := Lib.hid hx
  have HE := Lib.hid he
  obtain ⟨i0, hi, hz0, hz1, hz2⟩ := info_parts Tryd.infoShare
  have HO0 := Lib.hid (own_madeSh w)
  have HB0 := Lib.hid ((Below.refl w.heap.size w).alloc (Nat.le_refl _) (.cells #[] 91))
  clear h k hx he
  go_enter Tryd.func65, Tryd.ntmps65
  go_wp2_with fail
  generalize w.alloc (.cells #[] 91) = w4 at *
  go_loopw [7, 8] (fun q i wr => ∃ (j : Nat), j ≤ zs.length ∧ i = .int .i64 j ∧ OwnSh wr w.heap.size q j (dealt (fun x => hor p x cz.reverse) (zs.take j)) ∧ Below w.heap.size w wr)
    (fun _ i _ => zs.length - (intOf i).toNat)
  case atStart => exact ⟨0, Nat.zero_le _, rfl, HO0.out, HB0.out⟩
  case round =>
    obtain ⟨j, hj, rfl, ho, hb⟩ := hrel
    obtain ⟨qa, qc, rfl⟩ := ho.form
    have hsz := hb.size
    have HO := Lib.hid ho
    have HB := Lib.hid hb
    clear ho hb HO0 HB0
    by_cases hltj : j < zs.length
    · have hck := HC.out.below HB.out (Nat.le_refl _)
      rcases HI.out.below HB.out (Nat.le_refl _) with h | ⟨b2, o2, rfl, hc⟩
      · rw [h] at hltj; exact absurd hltj (Nat.not_lt_zero _)
      have hcj := hc j hltj
      have hj0 : (j : Int) < (zs.length : Int) := by omega
      have HT1 := Lib.hid (take_snoc1 zs hltj)
      have HXE := Lib.hid (HX.out j hltj)
      have HCK := Lib.hid hck
      generalize nth zs j = x at *
      obtain ⟨y, hy⟩ : ∃ y, hor p x cz.reverse = y := ⟨_, rfl⟩
      have HY := Lib.hid hy
      have hlv : ∀ W : World, Ints W a cz → Calls Tryd.prog 46 #[.int .i64 p, .slice a cz.length c, .int .i64 x] W fun e w' => e = .returned (.int .i64 y) ∧ W = w' := fun W hW => by
        have := l05Value_any p x a cz c W hW hcl hp hp1 HXE.out HE.out
        rw [hy] at this
        exact this
      have HLV := Lib.hid hlv
      clear hc hck hy hlv
      go_wp2_with fail
      go_region_law (first
        | (go_simp; go_at_call 46; refine (HLV.out _ (by first | exact HCK.out | exact HCK.out.step (drew_step _))).mono ?_; rintro e w8 ⟨rfl, rfl⟩)
        | (refine step_append_lies _ (by rfl) _ _ 42 (by rfl) w.heap.size 91 i0 (.agg #[.int .i64 0, .int .i64 0]) 2 16 Tryd.underlying42 hi hz0 hz1 hz2 (by rfl) (by decide) (.slice qa j qc) j (vals (dealt (fun x => hor p x cz.reverse) (zs.take j))) (by first | rfl | simp [Act.eval]) (by first | exact World.ownsRow.alloc (row_step HO.out (drew_step _)) _ | exact World.ownsRow.alloc HO.out _ | exact row_step (World.ownsRow.alloc HO.out _) (drew_step _)) ⟨wr.heap.size, 0, none⟩ 1 1 [.int .i64 x, .int .i64 y] (by first | rfl | simp [Act.eval]) (by rfl) (by first | exact cell_two_new _ _ _ _ | (intro j u hj; exact cell_two_new wr _ _ _ j u hj)) (by simp [Value.oneCell']) (by decide) (by unfold maxLen; omega) (by omega) (by simp; omega) _ rfl ?_; intro g cap w8 hown8 hgrow8 hat8 hlt8))
      all_goals (
        have H6 := Lib.hid (show OwnSh w8 w.heap.size (.slice (some ⟨g, 0, none⟩) (j + 1) cap) (j + 1) (dealt (fun x => hor p x cz.reverse) (zs.take (j + 1))) by
          rw [HT1.out, dealt_snoc]; unfold OwnSh; rw [vals_two]; simp only [HY.out]; exact hown8)
        have HB7 := Lib.hid (show Below w.heap.size w w8 by
          first
          | exact ((HB.out.alloc hsz (.cells #[.int .i64 x, .int .i64 y] 91)).drew).grown hgrow8 (by simp; omega) (fun q hq => (row_lt HO.out hq).1)
          | exact ((HB.out.drew).alloc (by simp; omega) (.cells #[.int .i64 x, .int .i64 y] 91)).grown hgrow8 (by simp; omega) (fun q hq => (row_lt HO.out hq).1))
        clear hown8 hgrow8 hat8 hlt8
        go_wp2_with fail
        go_roundw
        case rel => exact ⟨j + 1, by omega, by go_num, H6.out, HB7.out⟩
        case measure => simp [intOf]; omega)
    · have HE2 := Lib.hid (show zs.take j = zs from List.take_of_length_le (by omega))
      have HJ := Lib.hid (show j = zs.length by omega)
      go_wp2
      go_ret
      have := HO.out
      rw [HE2.out, HJ.out] at this
      exact ⟨⟨_, by rw [HJ.out]; rfl, this⟩, HB.out⟩

noncomputable def dsCode (p : Int) (cz zs : List Int) : Int := if tell (CurveOk p cz) = true then (if tell (PtsOk p zs) = true then 0 else 2) else 1
noncomputable def dsN (p : Int) (cz zs : List Int) : Nat := if dsCode p cz zs = 0 then zs.length else 0
noncomputable def dsZs (p : Int) (cz zs : List Int) : List Int := if dsCode p cz zs = 0 then dealt (fun x => hor p x cz.reverse) zs else []
theorem ds_no {p : Int} {cz zs : List Int} (h : dsCode p cz zs ≠ 0) : dsN p cz zs = 0 ∧ dsZs p cz zs = [] := by unfold dsN dsZs; rw [if_neg h, if_neg h]; exact ⟨rfl, rfl⟩
theorem ds_yes {p : Int} {cz zs : List Int} (h : CurveOk p cz) (k : PtsOk p zs) : dsCode p cz zs = 0 ∧ dsN p cz zs = zs.length ∧ dsZs p cz zs = dealt (fun x => hor p x cz.reverse) zs := by
  have hc : dsCode p cz zs = 0 := by unfold dsCode; rw [tell_true h, tell_true k]; rfl
  unfold dsN dsZs; rw [if_pos hc, if_pos hc]; exact ⟨hc, rfl, rfl⟩
theorem ds_one {p : Int} {cz zs : List Int} (h : ¬ CurveOk p cz) : dsCode p cz zs = 1 := by unfold dsCode; rw [tell_false h]; rfl
theorem ds_two {p : Int} {cz zs : List Int} (h : CurveOk p cz) (k : ¬ PtsOk p zs) : dsCode p cz zs = 2 := by unfold dsCode; rw [tell_true h, tell_false k]; rfl
theorem ds_len (p : Int) (cz zs : List Int) : (dsZs p cz zs).length = dsN p cz zs * 2 := by
  unfold dsN dsZs
  split
  · exact dealt_len _ _
  · rfl
theorem ds_small (p : Int) (cz zs : List Int) : dsN p cz zs ≤ 10 := by
  by_cases h : CurveOk p cz
  · by_cases k : PtsOk p zs
    · rw [(ds_yes h k).2.1]; exact k.1
    · rw [(ds_no (by rw [ds_two h k]; decide)).1]; omega
  · rw [(ds_no (by rw [ds_one h]; decide)).1]; omega
theorem codes_ds {w : World} {ai ar az : Addr} (h : Glob w ai ar az) (p : Int) (cz zs : List Int) : CodeIs w [curE ai p [cz], ptE ai ar p zs] (dsCode p cz zs) := by
  by_cases h1 : CurveOk p cz
  · rw [curE_yes ai (allOk_one.2 h1)]
    by_cases h2 : PtsOk p zs
    · rw [(ds_yes h1 h2).1, ptE_yes ai ar h1.1 h2]
      exact .none (.none .nil)
    · rw [ds_two h1 h2, ptE_out ai ar h1.1 h2]
      exact .none (h.range _)
  · rw [ds_one h1, curE_no ai (fun q => h1 (allOk_one.1 q))]
    exact h.invalid _
theorem GivesSh.code {W w0 w' : World} {n : Nat} {zs : List Int} {v : Value} (h : OwnSh w' w0.heap.size v n zs) (hs : W.heap.size ≤ w0.heap.size) (hb : Below W.heap.size W w') (code : Int) : GivesShCode W n zs code (.returned (.tuple #[v, .int .i64 code])) w' :=
  ⟨⟨v, rfl, h.mono hs⟩, hb⟩

set_option maxRecDepth 100000 in
set_option maxHeartbeats 1000000 in
theorem implDs_any (p : Int) (a b : Option Addr) (cz zs : List Int) (c d : Nat) (ai ar az : Addr) (w : World) (hg : Glob w ai ar az) (h : Ints w a cz) (hl : cz.length ≤ 1048576) (k : Ints w b zs) (kl : zs.length ≤ 1048576) :
    Calls Tryd.prog 30 #[.int .i64 p, .slice a cz.length c, .slice b zs.length d] w (GivesShCode w (dsN p cz zs) (dsZs p cz zs) (dsCode p cz zs)) := by
  have hb1 := (Below.refl w.heap.size w).alloc (Nat.le_refl _) (.cells #[.slice a cz.length c] 22)
  have HR1 := Lib.hid (rows2_one w a cz c h)
  have HG1 := Lib.hid (hg.step hb1)
  have HI1 := Lib.hid (h.step hb1)
  have HK1 := Lib.hid (k.step hb1)
  have HB1 := Lib.hid hb1
  clear hg h k hb1
  by_cases hok : CurveOk p cz ∧ PtsOk p zs
  · obtain ⟨e1, e2, e3⟩ := ds_yes hok.1 hok.2
    rw [e1, e2, e3]
    have HOK := Lib.hid hok
    clear hok e1 e2 e3
    go_enter Tryd.func30, Tryd.ntmps30
    go_wp2_with fail
    refine (checkCurves_any p (some ⟨w.heap.size, 0, none⟩) [cz] 1 ai _ HR1.out (by simp) (by intro r hr; obtain rfl : r = 0 := (by simp at hr; omega); show cz.length ≤ _; omega) HG1.out.two.i).mono ?_
    rintro e w1 ⟨rfl, rfl⟩
    rw [curE_yes ai (allOk_one.2 HOK.out.1)]
    generalize w.alloc (.cells #[.slice a cz.length c] 22) = w1 at *
    clear HR1
    go_wp2_with fail
    refine (checkPoints_any p b zs d ai ar _ HK1.out kl HG1.out.two.i HG1.out.r).mono ?_
    rintro e w3 ⟨rfl, hq⟩
    rw [ptE_yes ai ar HOK.out.1.1 HOK.out.2]
    simp only [errV]
    have hb3 := quiet_below hq
    have hb4 := hb3.trans (((Below.refl w3.heap.size w3).alloc (Nat.le_refl _) (.cells #[.nilIface, .nilIface] 65)).mono hb3.size)
    have HV := Lib.hid (errs_two w3 none none)
    simp only [errV] at HV
    have HI4 := Lib.hid (HI1.out.step hb4)
    have HK4 := Lib.hid (HK1.out.step hb4)
    have HB4 := Lib.hid (HB1.out.trans (hb4.mono HB1.out.size))
    clear hb3 hb4 hq HG1 HI1 HK1 HB1
    go_wp2_with fail
    refine (codeOf_any w3.heap.size [none, none] 2 2 0 _ rfl (by omega) HV.out (.none (.none .nil))).mono ?_
    rintro e w5 ⟨rfl, hb5⟩
    have HI5 := Lib.hid (HI4.out.step hb5)
    have HK5 := Lib.hid (HK4.out.step hb5)
    have HB5 := Lib.hid (HB4.out.trans (hb5.mono HB4.out.size))
    clear hb5 HV HI4 HK4 HB4
    go_wp2_with fail
    refine (curve_any p a cz c _ HI5.out hl).mono ?_
    rintro e w6 ⟨⟨v6, rfl, ho6⟩, hb6⟩
    obtain ⟨a6, c6, rfl, hN6⟩ := ho6.nums
    have HB6 := Lib.hid (HB5.out.trans (hb6.mono HB5.out.size))
    have HK6 := Lib.hid (HK5.out.step hb6)
    have HN6 := Lib.hid hN6
    clear ho6 hb6 hN6 HI5 HB5 HK5
    go_wp2_with fail
    refine (deal_any p a6 cz c6 b zs d _ HK6.out kl HN6.out (by have := HOK.out.1.2.1; omega) HOK.out.1.1.1 HOK.out.1.1.2.1 HOK.out.2.elems HOK.out.1.2.2.1).mono ?_
    rintro e w7 ⟨⟨v7, rfl, ho7⟩, hb7⟩
    have HO7 := Lib.hid ho7
    have HB7 := Lib.hid (HB6.out.trans (hb7.mono HB6.out.size))
    have hs6 := HB6.out.size
    clear ho7 hb7
    go_wp2_with fail
    refine bodyPost_ret (v := .tuple #[v7, .int .i64 0]) (by simp [results, Tryd.results30, go_sem]) rfl ?_
    exact GivesSh.code HO7.out hs6 HB7.out 0
  · obtain ⟨r, hr⟩ : ∃ r, dsCode p cz zs = r := ⟨_, rfl⟩
    have h0 : r ≠ 0 := by
      rw [← hr]
      by_cases h1 : CurveOk p cz
      · rw [ds_two h1 (fun q => hok ⟨h1, q⟩)]; decide
      · rw [ds_one h1]; decide
    obtain ⟨e2, e3⟩ := ds_no (p := p) (cz := cz) (zs := zs) (by rw [hr]; exact h0)
    rw [hr, e2, e3]
    have t0 : (r != 0) = true := by simp [h0]
    have HCD := Lib.hid hr
    clear hr e2 e3 h0 hok
    go_enter Tryd.func30, Tryd.ntmps30
    go_wp2_with fail
    refine (checkCurves_any p (some ⟨w.heap.size, 0, none⟩) [cz] 1 ai _ HR1.out (by simp) (by intro r hr; obtain rfl : r = 0 := (by simp at hr; omega); show cz.length ≤ _; omega) HG1.out.two.i).mono ?_
    rintro e w1 ⟨rfl, rfl⟩
    generalize w.alloc (.cells #[.slice a cz.length c] 22) = w1 at *
    clear HR1
    go_wp2_with fail
    refine (checkPoints_any p b zs d ai ar _ HK1.out kl HG1.out.two.i HG1.out.r).mono ?_
    rintro e w3 ⟨rfl, hq⟩
    have hb3 := quiet_below hq
    have HG3 := Lib.hid (HG1.out.step hb3)
    have HB3 := Lib.hid (HB1.out.trans (hb3.mono HB1.out.size))
    clear hb3 hq HG1 HI1 HK1 HB1
    obtain ⟨x1, hx1⟩ : ∃ x1, curE ai p [cz] = x1 := ⟨_, rfl⟩
    obtain ⟨x2, hx2⟩ : ∃ x2, ptE ai ar p zs = x2 := ⟨_, rfl⟩
    have hcd := codes_ds HG3.out p cz zs
    rw [hx1, hx2, HCD.out] at hcd
    rw [hx1, hx2]
    clear hx1 hx2
    have hb4 := (Below.refl w3.heap.size w3).alloc (Nat.le_refl _) (.cells #[errV x1, errV x2] 65)
    have HV := Lib.hid (errs_two w3 x1 x2)
    have HCI := Lib.hid (hcd.step hb4)
    have HB4 := Lib.hid (HB3.out.trans (hb4.mono HB3.out.size))
    clear hcd hb4 HG3 HB3
    rcases x1 with _ | a1 <;> rcases x2 with _ | a2 <;> simp only [errV] at HV HCI HB4 ⊢
    all_goals (
      go_wp2_with fail
      refine (codeOf_any w3.heap.size [_, _] 2 2 r _ rfl (by omega) HV.out HCI.out).mono ?_
      rintro e w5 ⟨rfl, hb5⟩
      have HB5 := Lib.hid (HB4.out.trans (hb5.mono HB4.out.size))
      clear hb5 HV HCI HB4
      go_wp2_with fail
      refine bodyPost_ret (v := .tuple #[.slice none 0 0, .int .i64 r]) (by simp [results, Tryd.results30, go_sem]) rfl ?_
      exact GivesSh.code (OwnSh.nil _ _) (Nat.le_refl _) HB5.out r)

set_option maxRecDepth 100000 in
set_option maxHeartbeats 1000000 in
theorem specDs_any (p : Int) (a b : Option Addr) (cz zs : List Int) (c d : Nat) (w : World) (h : Ints w a cz) (hl : cz.length ≤ 1048576) (k : Ints w b zs) (kl : zs.length ≤ 1048576) :
    Calls Tryd.prog 29 #[.int .i64 p, .slice a cz.length c, .slice b zs.length d] w (GivesShCode w (dsN p cz zs) (dsZs p cz zs) (dsCode p cz zs)) := by
  have HI := Lib.hid h
  have HK := Lib.hid k
  clear h k
  by_cases h1 : CurveOk p cz
  case neg =>
    have HT := Lib.hid (tell_false h1)
    obtain ⟨e2, e3⟩ := ds_no (p := p) (cz := cz) (zs := zs) (by rw [ds_one h1]; decide)
    rw [ds_one h1, e2, e3]
    have HOM := Lib.hid (own_madeSh w)
    have HBM := Lib.hid ((Below.refl w.heap.size w).alloc (Nat.le_refl _) (.cells #[] 91))
    clear h1 e2 e3
    go_enter Tryd.func29, Tryd.ntmps29
    go_wp2_with fail
    refine (specVc_any p a cz c _ HI.out (by omega)).mono ?_
    rintro e w1 ⟨rfl, rfl⟩
    rw [HT.out]
    go_wp2_with fail
    refine bodyPost_ret (v := .tuple #[.slice (some ⟨w.heap.size, 0, none⟩) 0 0, .int .i64 1]) (by simp [results, Tryd.results29, go_sem]) rfl ?_
    exact GivesSh.code HOM.out (Nat.le_refl _) HBM.out 1
  have HT := Lib.hid (tell_true h1)
  have HP := Lib.hid h1
  have hp2 := h1.1.1
  have hp31 := h1.1.2.1
  by_cases h2 : PtsOk p zs
  case neg =>
    have HT2 := Lib.hid (tell_false h2)
    obtain ⟨e2, e3⟩ := ds_no (p := p) (cz := cz) (zs := zs) (by rw [ds_two h1 h2]; decide)
    rw [ds_two h1 h2, e2, e3]
    clear h1 h2 e2 e3
    go_enter Tryd.func29, Tryd.ntmps29
    go_wp2_with fail
    refine (specVc_any p a cz c _ HI.out (by omega)).mono ?_
    rintro e w1 ⟨rfl, rfl⟩
    rw [HT.out]
    go_wp2_with fail
    refine (l05Points_any p b zs d _ HK.out kl hp2 hp31).mono ?_
    rintro e w1 ⟨rfl, hq⟩
    rw [HT2.out]
    have HOM := Lib.hid (own_madeSh w1)
    have HBM := Lib.hid ((quiet_below hq).trans (((Below.refl w1.heap.size w1).alloc (Nat.le_refl _) (.cells #[] 91)).mono (quiet_below hq).size))
    have hs1 := (quiet_below hq).size
    clear hq
    go_wp2_with fail
    refine bodyPost_ret (v := .tuple #[.slice (some ⟨w1.heap.size, 0, none⟩) 0 0, .int .i64 2]) (by simp [results, Tryd.results29, go_sem]) rfl ?_
    exact GivesSh.code HOM.out hs1 HBM.out 2
  have HT2 := Lib.hid (tell_true h2)
  have HP2 := Lib.hid h2
  obtain ⟨e1, e2, e3⟩ := ds_yes h1 h2
  rw [e1, e2, e3]
  clear h1 h2 e1 e2 e3
  go_enter Tryd.func29, Tryd.ntmps29
  go_wp2_with fail
  refine (specVc_any p a cz c _ HI.out (by omega)).mono ?_
  rintro e w1 ⟨rfl, rfl⟩
  rw [HT.out]
  go_wp2_with fail
  refine (l05Points_any p b zs d _ HK.out kl hp2 hp31).mono ?_
  rintro e w1 ⟨rfl, hq⟩
  rw [HT2.out]
  have HB1 := Lib.hid (quiet_below hq)
  have HI1 := Lib.hid (HI.out.quiet hq)
  have HK1 := Lib.hid (HK.out.quiet hq)
  clear hq
  go_wp2_with fail
  refine (l05Deal_any p a b cz zs c d _ HI1.out HK1.out (by have := HP.out.2.1; omega) (by have := HP2.out.1; omega) hp2 hp31 HP2.out.elems HP.out.2.2.1).mono ?_
  rintro e w2 ⟨⟨v2, rfl, ho2⟩, hb2⟩
  have HO2 := Lib.hid ho2
  have HB2 := Lib.hid (HB1.out.trans (hb2.mono HB1.out.size))
  have hs1 := HB1.out.size
  clear ho2 hb2
  go_wp2_with fail
  refine bodyPost_ret (v := .tuple #[v2, .int .i64 0]) (by simp [results, Tryd.results29, go_sem]) rfl ?_
  exact GivesSh.code HO2.out hs1 HB2.out 0
end Go.Proofs.YtgndekojodpmkaaDoor

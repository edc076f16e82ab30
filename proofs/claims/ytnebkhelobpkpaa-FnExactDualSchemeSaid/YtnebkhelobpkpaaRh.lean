/- The contracts of RowsHeld, the program's and the model's, and of what they call. -/
import Derived.Test.YtnebkhelobpkpaaSzs
import Derived.Test.YtnebkhelobpkpaaGk
namespace Go.Proofs.Ytnebkhelobpkpaa
open Go.RowKit Go.Deep
set_option linter.unusedVariables false

theorem InS.below {B : Nat} {W W' : World} {ao a : Option Addr} {yo : List Int} {z : List (List Int)} (h : InS W ao yo a z) (hb : Below B W W') (hB : W.heap.size ≤ B) : InS W' ao yo a z := ⟨h.o.below hb hB, h.r.below hb hB⟩
noncomputable def grpCode (h f l : Int) (yo : List Int) (z : List (List Int)) (gs : List Int) : Int := if tell (SchOk h yo f l z) = true then (if tell (IsGrp h gs) = true then 0 else 2) else 1
noncomputable def grpBits (h f l : Int) (yo : List Int) (z : List (List Int)) (gs : List Int) : Nat := if tell (SchOk h yo f l z) = true then (if tell (IsGrp h gs) = true then bitsOf gs else 0) else 0
noncomputable def held (yo gs : List Int) : Nat → Bool := fun i => tell (HasIn gs (nth yo i))
noncomputable def rowsHeld (h f l : Int) (yo : List Int) (z : List (List Int)) (gs : List Int) : List Int := if tell (SchOk h yo f l z) = true then (if tell (IsGrp h gs) = true then pickTo (held yo gs) yo.length else []) else []
theorem rowsHeld_len (h f l : Int) (yo : List Int) (z : List (List Int)) (gs : List Int) : (rowsHeld h f l yo z gs).length ≤ 1048576 := by
  unfold rowsHeld
  split
  · next q =>
    have := (of_tell q).2.2.2.1
    have := (of_tell q).2.1.2.2.1
    split
    · exact Nat.le_trans (pickTo_len _ _) (by omega)
    · simp
  · simp
theorem grp_yes {h f l : Int} {yo : List Int} {z : List (List Int)} {gs : List Int} (h1 : SchOk h yo f l z) (h2 : IsGrp h gs) : grpCode h f l yo z gs = 0 ∧ grpBits h f l yo z gs = bitsOf gs ∧ rowsHeld h f l yo z gs = pickTo (held yo gs) yo.length := by
  unfold grpCode grpBits rowsHeld; rw [tell_true h1, tell_true h2]; exact ⟨rfl, rfl, rfl⟩
theorem grp_no {h f l : Int} {yo : List Int} {z : List (List Int)} {gs : List Int} (h1 : SchOk h yo f l z) (h2 : ¬ IsGrp h gs) : grpCode h f l yo z gs = 2 ∧ grpBits h f l yo z gs = 0 ∧ rowsHeld h f l yo z gs = [] := by
  unfold grpCode grpBits rowsHeld; rw [tell_true h1, tell_false h2]; exact ⟨rfl, rfl, rfl⟩
theorem grp_bad {h f l : Int} {yo : List Int} {z : List (List Int)} {gs : List Int} (h1 : ¬ SchOk h yo f l z) : grpCode h f l yo z gs = 1 ∧ grpBits h f l yo z gs = 0 ∧ rowsHeld h f l yo z gs = [] := by
  unfold grpCode grpBits rowsHeld; rw [tell_false h1]; exact ⟨rfl, rfl, rfl⟩

set_option maxRecDepth 100000 in
set_option maxHeartbeats 1000000 in
theorem groupWithin_any (h f l : Int) (ao : Option Addr) (yo : List Int) (co : Nat) (a : Option Addr) (z : List (List Int)) (c : Nat) (ag : Option Addr) (gs : List Int) (cg : Nat) (w : World) (hr : InS w ao yo a z) (hl : LenS yo z) (hg : Ints w ag gs) (hlg : gs.length ≤ 9223372036854775807) :
    Calls Try.prog 125 #[.agg #[.int .i64 h, .slice ao yo.length co, .int .i64 f, .int .i64 l, .slice a z.length c], .slice ag gs.length cg] w fun e w' => e = .returned (.tuple #[.int .u64 ((grpBits h f l yo z gs : Nat) : Int), .int .i64 (grpCode h f l yo z gs)]) ∧ Below w.heap.size w w' := by
  have HL := Lib.hid hl
  have hb1 := (Below.refl w.heap.size w).alloc (Nat.le_refl _) (.cells #[.int .i64 h, .slice ao yo.length co, .int .i64 f, .int .i64 l, .slice a z.length c] 48)
  have HX := Lib.hid (show Boxes (w.alloc (.cells #[.int .i64 h, .slice ao yo.length co, .int .i64 f, .int .i64 l, .slice a z.length c] 48)) w.heap.size 48 #[.int .i64 h, .slice ao yo.length co, .int .i64 f, .int .i64 l, .slice a z.length c] from World.alloc_heap_new w _)
  have HB1 := Lib.hid hb1
  have HR := Lib.hid (hr.step hb1)
  have HG := Lib.hid (hg.step hb1)
  clear hr hl hb1 hg
  by_cases hok : SchOk h yo f l z
  case neg =>
    have HF := Lib.hid (tell_false hok)
    have HC := Lib.hid (grp_bad (gs := gs) hok)
    clear hok
    go_enter Try.func125, Try.ntmps125
    go_wp2_with fail
    refine (implVs_any h f l ao yo co a z c _ HR.out HL.out).mono ?_
    rintro e w2 ⟨rfl, hb2⟩
    rw [HF.out]
    have HB2 := Lib.hid (chain HB1.out hb2)
    clear hb2
    go_wp2_with fail
    go_ret2
    exact ⟨by rw [HC.out.1, HC.out.2.1]; rfl, HB2.out⟩
  have HF := Lib.hid (tell_true hok)
  have hh7 : h ≤ 7 := hok.1.2
  have HO := Lib.hid hok
  clear hok
  go_enter Try.func125, Try.ntmps125
  go_wp2_with fail
  refine (implVs_any h f l ao yo co a z c _ HR.out HL.out).mono ?_
  generalize w.alloc (.cells #[.int .i64 h, .slice ao yo.length co, .int .i64 f, .int .i64 l, .slice a z.length c] 48) = w1 at *
  rintro e w2 ⟨rfl, hb2⟩
  rw [HF.out]
  have HB2 := Lib.hid (chain HB1.out hb2)
  have hbx := HX.out.step hb2
  have c0 := hbx.s0
  have HG2 := Lib.hid (HG.out.step hb2)
  clear hb2 hbx HX HG HR HB1
  go_wp2_with fail
  refine (setOf_any ag gs cg h w2 HG2.out hh7 hlg).mono ?_
  rintro e w3 ⟨rfl, rfl⟩
  by_cases hgr : IsGrp h gs
  · have HC := Lib.hid (grp_yes HO.out hgr)
    have HV := Lib.hid (show setVal h gs = .tuple #[.int .u64 ((bitsOf gs : Nat) : Int), .bool true] by rw [setVal, tell_true hgr]; rfl)
    clear hgr
    rw [HV.out]
    go_wp2_with fail
    go_ret2
    exact ⟨by rw [HC.out.1, HC.out.2.1]; rfl, HB2.out⟩
  · have HC := Lib.hid (grp_no HO.out hgr)
    have HV := Lib.hid (show setVal h gs = .tuple #[.int .u64 0, .bool false] by rw [setVal, tell_false hgr]; rfl)
    clear hgr
    rw [HV.out]
    go_wp2_with fail
    go_ret2
    exact ⟨by rw [HC.out.1, HC.out.2.1]; rfl, HB2.out⟩

set_option maxRecDepth 100000 in
set_option maxHeartbeats 1000000 in
theorem rowsWithin_any (h f l : Int) (ao : Option Addr) (yo : List Int) (co : Nat) (a : Option Addr) (z : List (List Int)) (c : Nat) (gs : List Int) (w : World) (hr : InS w ao yo a z) (hok : SchOk h yo f l z) (hgr : IsGrp h gs) :
    Calls Try.prog 119 #[.agg #[.int .i64 h, .slice ao yo.length co, .int .i64 f, .int .i64 l, .slice a z.length c], .int .u64 ((bitsOf gs : Nat) : Int)] w (GivesInts w (pickTo (held yo gs) yo.length)) := by
  have hb1 := (Below.refl w.heap.size w).alloc (Nat.le_refl _) (.cells #[.int .i64 h, .slice ao yo.length co, .int .i64 f, .int .i64 l, .slice a z.length c] 48)
  have HB1 := Lib.hid hb1
  have HR0 := Lib.hid hr
  have HR := Lib.hid (hr.step hb1)
  have hx := bitsOf_lt hgr hok.1.2
  have hh7 : h ≤ 7 := hok.1.2
  have hy20 : yo.length ≤ 20 := by have := hok.2.2.2.1; have := hok.2.1.2.2.1; omega
  have HOK := Lib.hid hok
  have HG := Lib.hid hgr
  clear hr hb1 hok hgr
  obtain ⟨i0, hi, hz0, hz1, hz2⟩ := info_parts Try.infoInt64
  go_enter Try.func119, Try.ntmps119
  go_wp2_with fail
  have hown : OwnI ((w.alloc (.cells #[.int .i64 h, .slice ao yo.length co, .int .i64 f, .int .i64 l, .slice a z.length c] 48)).alloc (.cells #[] 2)) w.heap.size (.slice (some ⟨w.heap.size + 1, 0, none⟩) 0 0) [] := by
    have := World.ownsRow_made (w.alloc (.cells #[.int .i64 h, .slice ao yo.length co, .int .i64 f, .int .i64 l, .slice a z.length c] 48)) (base := w.heap.size) (e := 2) (size := 1) #[] 0 (by simp) (by unfold maxLen; omega) rfl
    simp only [World.size_alloc] at this
    exact this
  have hb3 := HB1.out.alloc HB1.out.size (.cells #[] 2)
  have hr3 := HR.out.step ((Below.refl _ _).alloc (Nat.le_refl _) (.cells #[] 2))
  generalize (w.alloc (.cells #[.int .i64 h, .slice ao yo.length co, .int .i64 f, .int .i64 l, .slice a z.length c] 48)).alloc (.cells #[] 2) = w3 at *
  have HR3 := Lib.hid hr3
  have HB3 := Lib.hid hb3
  have HOW := Lib.hid hown
  clear hr3 hb3 hown HR HB1
  generalize (Value.slice (some ⟨w.heap.size + 1, 0, none⟩) 0 0) = v0 at *
  go_loopw [5, 6, 7, 12] (fun v q1 q2 i wr => ∃ k : Nat, k ≤ yo.length ∧ i = .int .i64 k ∧ OwnI wr w.heap.size v (pickTo (held yo gs) k) ∧ Below w.heap.size w wr)
    (fun _ _ _ i _ => yo.length - (intOf i).toNat)
  case atStart => exact ⟨0, Nat.zero_le _, rfl, HOW.out, HB3.out⟩
  case round =>
    obtain ⟨k, hk, rfl, ho, hb⟩ := hrel
    have hin := HR0.out.below hb (Nat.le_refl _)
    have HO := Lib.hid ho
    have HB := Lib.hid hb
    have HIN := Lib.hid hin
    have hszr := hb.size
    have hlk := pickTo_len (held yo gs) k
    clear ho hb HOW HB3 HR3 hin
    by_cases hlt : k < yo.length
    · rcases HIN.out.o with h | ⟨b, o, rfl, hc⟩
      · rw [h] at hlt; exact absurd hlt (Nat.not_lt_zero _)
      have hcell := hc k hlt
      have hi0 : (k : Int) < (yo.length : Int) := by omega
      have how := HOK.out.2.2.2.2 k hlt
      have HBIT := Lib.hid (has_bits HG.out how.1)
      have hw0 := how.1
      have hw1 : nth yo k ≤ 6 := by omega
      clear hc how
      cases hh : held yo gs k with
      | true =>
        have HT := Lib.hid hh
        have HT2 := Lib.hid (show tell (HasIn gs (nth yo k)) = true from hh)
        clear hh
        go_wp2_with fail
        refine (has_any (bitsOf gs) (nth yo k) wr hx hw0 hw1).mono ?_
        rintro e w' ⟨rfl, rfl⟩
        rw [HBIT.out, HT2.out]
        go_wp2_with (at_builtin; refine wpList_append_own _ rfl _ _ 35 rfl w.heap.size 2 i0 (.int .i64 0) 1 8 Try.underlying35 hi hz0 hz1 hz2 rfl (by decide) _ _ _ rfl (World.ownsRow.alloc HO.out _) ⟨wr.heap.size, 0, none⟩ 1 1 [.int .i64 k] rfl rfl (cell_one_new _ _ _) (by simp [Value.oneCell']) (by unfold maxLen; omega) (by omega) (by simp; omega) ?_; intro v' w1 hown1 hgrow1 _)
        go_wp2
        go_roundw
        case rel =>
          refine ⟨k + 1, by omega, by go_num, ?_, ?_⟩
          · unfold OwnI; rw [pickTo_hit HT.out, vals_snoc, List.length_append]; exact hown1
          · exact (HB.out.alloc hszr _).grown hgrow1 (by simp; omega) (fun q hq => (HO.out.lt hq).1)
        case measure => simp [intOf]; omega
      | false =>
        have HT := Lib.hid hh
        have HT2 := Lib.hid (show tell (HasIn gs (nth yo k)) = false from hh)
        clear hh
        go_wp2_with fail
        refine (has_any (bitsOf gs) (nth yo k) wr hx hw0 hw1).mono ?_
        rintro e w' ⟨rfl, rfl⟩
        rw [HBIT.out, HT2.out]
        go_wp2_with fail
        go_roundw
        case rel =>
          refine ⟨k + 1, by omega, by go_num, ?_, HB.out⟩
          rw [pickTo_miss HT.out]; exact HO.out
        case measure => simp [intOf]; omega
    · have HE := Lib.hid (show k = yo.length by omega)
      go_wp2_with fail
      go_ret
      refine ⟨⟨_, rfl, ?_⟩, HB.out⟩
      have := HO.out
      rw [HE.out] at this
      exact this

set_option maxRecDepth 100000 in
set_option maxHeartbeats 1000000 in
theorem l04Asked_any (q0 : Nat) (h f l : Int) (ao : Option Addr) (yo : List Int) (co : Nat) (a : Option Addr) (z : List (List Int)) (c : Nat) (ag : Option Addr) (gs : List Int) (cg : Nat) (w : World) (hbx : Boxes w q0 48 #[.int .i64 h, .slice ao yo.length co, .int .i64 f, .int .i64 l, .slice a z.length c]) (hr : InS w ao yo a z) (hl : LenS yo z) (hg : Ints w ag gs) (hlg : gs.length ≤ 9223372036854775807) :
    Calls Try.prog 120 #[.pointer (some ⟨q0, 0, none⟩), .slice ag gs.length cg] w fun e w' => e = .returned (.int .i64 (grpCode h f l yo z gs)) ∧ Quiet w w' := by
  have HX := Lib.hid hbx
  have HR := Lib.hid hr
  have HG := Lib.hid hg
  have HL := Lib.hid hl
  clear hbx hr hg hl
  by_cases hok : SchOk h yo f l z
  case neg =>
    have HF := Lib.hid (tell_false hok)
    have HC := Lib.hid (grp_bad (gs := gs) hok)
    clear hok
    go_enter Try.func120, Try.ntmps120
    go_wp2_with fail
    refine (l04Ok_any q0 h f l ao yo co a z c _ HX.out HR.out HL.out).mono ?_
    rintro e w2 ⟨rfl, hq⟩
    rw [HF.out]
    go_wp2_with fail
    go_ret
    exact ⟨by rw [HC.out.1]; rfl, hq⟩
  have HF := Lib.hid (tell_true hok)
  have hh7 : h ≤ 7 := hok.1.2
  have hh1 : 1 ≤ h := hok.1.1
  have HO := Lib.hid hok
  clear hok
  go_enter Try.func120, Try.ntmps120
  go_wp2_with fail
  refine (l04Ok_any q0 h f l ao yo co a z c _ HX.out HR.out HL.out).mono ?_
  rintro e w2 ⟨rfl, hq⟩
  rw [HF.out]
  have HQ := Lib.hid hq
  have c0 := (hq.cell _).trans HX.out.s0
  have HG2 := Lib.hid (HG.out.quiet hq)
  clear hq
  go_wp2_with fail
  refine (l01Group_any ag gs cg h w2 HG2.out hlg (by omega) (by omega)).mono ?_
  rintro e w3 ⟨rfl, hq⟩
  have HQ3 := Lib.hid (HQ.out.trans hq)
  clear hq
  by_cases hgr : IsGrp h gs
  · have HC := Lib.hid (grp_yes HO.out hgr)
    have HT := Lib.hid (tell_true hgr)
    clear hgr
    rw [HT.out]
    go_wp2_with fail
    go_ret
    exact ⟨by rw [HC.out.1]; rfl, HQ3.out⟩
  · have HC := Lib.hid (grp_no HO.out hgr)
    have HT := Lib.hid (tell_false hgr)
    clear hgr
    rw [HT.out]
    go_wp2_with fail
    go_ret
    exact ⟨by rw [HC.out.1]; rfl, HQ3.out⟩

set_option maxRecDepth 100000 in
set_option maxHeartbeats 1000000 in
theorem l04Held_any (q0 : Nat) (h f l : Int) (ao : Option Addr) (yo : List Int) (co : Nat) (a : Option Addr) (z : List (List Int)) (c : Nat) (ag : Option Addr) (gs : List Int) (cg : Nat) (w : World) (hbx : Boxes w q0 48 #[.int .i64 h, .slice ao yo.length co, .int .i64 f, .int .i64 l, .slice a z.length c]) (hr : InS w ao yo a z) (hy20 : yo.length ≤ 20) (hg : Ints w ag gs) (hlg : gs.length ≤ 9223372036854775807) :
    Calls Try.prog 122 #[.pointer (some ⟨q0, 0, none⟩), .slice ag gs.length cg] w (GivesInts w (pickTo (held yo gs) yo.length)) := by
  have HX := Lib.hid hbx
  have HR0 := Lib.hid hr
  have HG := Lib.hid hg
  clear hbx hr hg
  obtain ⟨i0, hi, hz0, hz1, hz2⟩ := info_parts Try.infoInt64
  go_enter Try.func122, Try.ntmps122
  go_wp2_with fail
  have hown : OwnI (w.alloc (.cells #[] 2)) w.heap.size (.slice (some ⟨w.heap.size, 0, none⟩) 0 0) [] := World.ownsRow_made w #[] 0 (Nat.le_refl _) (by unfold maxLen; omega) rfl
  have hb1 := (Below.refl w.heap.size w).alloc (Nat.le_refl _) (.cells #[] 2)
  have HOW := Lib.hid hown
  have HB1 := Lib.hid hb1
  clear hown hb1
  generalize (Value.slice (some ⟨w.heap.size, 0, none⟩) 0 0) = v0 at *
  go_loopw [5, 6] (fun v i wr => ∃ k : Nat, k ≤ yo.length ∧ i = .int .i64 k ∧ OwnI wr w.heap.size v (pickTo (held yo gs) k) ∧ Below w.heap.size w wr)
    (fun _ i _ => yo.length - (intOf i).toNat)
  case atStart => exact ⟨0, Nat.zero_le _, rfl, HOW.out, HB1.out⟩
  case round =>
    obtain ⟨k, hk, rfl, ho, hb⟩ := hrel
    have hin := HR0.out.below hb (Nat.le_refl _)
    have HG2 := Lib.hid (HG.out.below hb (Nat.le_refl _))
    have HO := Lib.hid ho
    have HB := Lib.hid hb
    have HIN := Lib.hid hin
    have hszr := hb.size
    have c1 := (HX.out.step hb).s1
    have hlk := pickTo_len (held yo gs) k
    clear ho hb HOW HB1 hin
    by_cases hlt : k < yo.length
    · rcases HIN.out.o with h | ⟨b, o, rfl, hc⟩
      · rw [h] at hlt; exact absurd hlt (Nat.not_lt_zero _)
      have hcell := hc k hlt
      have hi0 : (k : Int) < (yo.length : Int) := by omega
      clear hc
      cases hh : held yo gs k with
      | true =>
        have HT := Lib.hid hh
        have HT2 := Lib.hid (show tell (HasIn gs (nth yo k)) = true from hh)
        clear hh
        go_wp2_with fail
        refine (l00Has_any ag gs cg (nth yo k) wr HG2.out hlg).mono ?_
        rintro e w' ⟨rfl, rfl⟩
        rw [HT2.out]
        go_wp2_with (at_builtin; refine wpList_append_own _ rfl _ _ 35 rfl w.heap.size 2 i0 (.int .i64 0) 1 8 Try.underlying35 hi hz0 hz1 hz2 rfl (by decide) _ _ _ rfl (World.ownsRow.alloc HO.out _) ⟨wr.heap.size, 0, none⟩ 1 1 [.int .i64 k] rfl rfl (cell_one_new _ _ _) (by simp [Value.oneCell']) (by unfold maxLen; omega) (by omega) (by simp; omega) ?_; intro v' w1 hown1 hgrow1 _)
        go_wp2
        go_roundw
        case rel =>
          refine ⟨k + 1, by omega, by go_num, ?_, ?_⟩
          · unfold OwnI; rw [pickTo_hit HT.out, vals_snoc, List.length_append]; exact hown1
          · exact (HB.out.alloc hszr _).grown hgrow1 (by simp; omega) (fun q hq => (HO.out.lt hq).1)
        case measure => simp [intOf]; omega
      | false =>
        have HT := Lib.hid hh
        have HT2 := Lib.hid (show tell (HasIn gs (nth yo k)) = false from hh)
        clear hh
        go_wp2_with fail
        refine (l00Has_any ag gs cg (nth yo k) wr HG2.out hlg).mono ?_
        rintro e w' ⟨rfl, rfl⟩
        rw [HT2.out]
        go_wp2_with fail
        go_roundw
        case rel =>
          refine ⟨k + 1, by omega, by go_num, ?_, HB.out⟩
          rw [pickTo_miss HT.out]; exact HO.out
        case measure => simp [intOf]; omega
    · have HE := Lib.hid (show k = yo.length by omega)
      go_wp2_with fail
      go_ret
      refine ⟨⟨_, rfl, ?_⟩, HB.out⟩
      have := HO.out
      rw [HE.out] at this
      exact this

end Go.Proofs.Ytnebkhelobpkpaa

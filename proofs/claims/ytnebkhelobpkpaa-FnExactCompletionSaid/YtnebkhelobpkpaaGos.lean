/- gridOfShares of the program, l04With of the model; IsConsistent: both contracts. -/
import Derived.Test.YtnebkhelobpkpaaOel
import Derived.Deep.RegionHeld3
namespace Go.Proofs.Ytnebkhelobpkpaa
open Go.RowKit Go.Deep Go.Joins
set_option linter.unusedVariables false

section
variable (h f l : Int) (yo : List Int) (z : List (List Int)) (gs hs : List Int)
/-- The code of a scheme, a group and shares. -/
noncomputable def wiCode : Int := oeSel h f l yo z gs 1 2 (if tell (RowOk f ((partI yo gs).length : Int) hs) = true then 0 else 2)
noncomputable def icB : Bool := oeSel h f l yo z gs false false (if tell (RowOk f ((partI yo gs).length : Int) hs) = true then tell (SolOk f l.toNat (partZ yo z gs) hs) else false)
variable {h f l} {yo} {z} {gs hs}
theorem wi_grp (k : ¬ (SchOk h yo f l z ∧ IsGrp h gs)) : (grpCode h f l yo z gs = 1 ∨ grpCode h f l yo z gs = 2) ∧ wiCode h f l yo z gs hs = grpCode h f l yo z gs ∧ icB h f l yo z gs hs = false := by
  by_cases h1 : SchOk h yo f l z
  · have h2 : ¬ IsGrp h gs := fun q => k ⟨h1, q⟩
    unfold wiCode icB
    rw [oe_rng h1 h2, oe_rng h1 h2, (grp_no h1 h2).1]
    exact ⟨.inr rfl, rfl, rfl⟩
  · unfold wiCode icB
    rw [oe_bad h1, oe_bad h1, (grp_bad (gs := gs) h1).1]
    exact ⟨.inl rfl, rfl, rfl⟩
theorem wi_row (k : SchOk h yo f l z ∧ IsGrp h gs) (q : ¬ RowOk f ((partI yo gs).length : Int) hs) : wiCode h f l yo z gs hs = 2 ∧ icB h f l yo z gs hs = false := by
  unfold wiCode icB; rw [oe_ok k.1 k.2, oe_ok k.1 k.2, tell_false q]; exact ⟨rfl, rfl⟩
theorem wi_ok (k : SchOk h yo f l z ∧ IsGrp h gs) (q : RowOk f ((partI yo gs).length : Int) hs) : wiCode h f l yo z gs hs = 0 ∧ icB h f l yo z gs hs = tell (SolOk f l.toNat (partZ yo z gs) hs) := by
  unfold wiCode icB; rw [oe_ok k.1 k.2, oe_ok k.1 k.2, tell_true q]; exact ⟨rfl, rfl⟩
end

/-- What gives the grid of the rows of a group, or a code. -/
structure GivesGos (w : World) (ok : Prop) (f l : Int) (Z : List (List Int)) (code : Int) (e : Ending) (w' : World) : Prop where
  val : ∃ xa xm xc xf xl, e = .returned (.tuple #[.agg #[.slice xa xm xc, .int .i64 xf, .int .i64 xl], .int .i64 code]) ∧ (ok → xm = Z.length ∧ xf = f ∧ xl = l ∧ GridR w' xa f Z)
  below : Below w.heap.size w w'

set_option maxRecDepth 100000 in
set_option maxHeartbeats 2000000 in
theorem gridOfShares_any (h f l : Int) (ao : Option Addr) (yo : List Int) (co : Nat) (a : Option Addr) (z : List (List Int)) (c : Nat) (ag : Option Addr) (gs : List Int) (cg : Nat) (ah : Option Addr) (hs : List Int) (ch : Nat) (w : World) (hr : InS w ao yo a z) (hl : LenS yo z) (hg : Ints w ag gs) (hlg : gs.length ≤ 9223372036854775807) (hh : Ints w ah hs) (hlh : hs.length ≤ 9223372036854775807) :
    Calls Try.prog 74 #[.agg #[.int .i64 h, .slice ao yo.length co, .int .i64 f, .int .i64 l, .slice a z.length c], .slice ag gs.length cg, .slice ah hs.length ch] w (GivesGos w ((SchOk h yo f l z ∧ IsGrp h gs) ∧ RowOk f ((partI yo gs).length : Int) hs) f l (partZ yo z gs) (wiCode h f l yo z gs hs)) := by
  have HL := Lib.hid hl
  have hb2 := ((Below.refl w.heap.size w).alloc (Nat.le_refl _) (.cells #[.int .i64 h, .slice ao yo.length co, .int .i64 f, .int .i64 l, .slice a z.length c] 48)).alloc (by simp) (.cells #[.slice none 0 0, .int .i64 0, .int .i64 0] 102)
  have HX := Lib.hid (show Boxes ((w.alloc (.cells #[.int .i64 h, .slice ao yo.length co, .int .i64 f, .int .i64 l, .slice a z.length c] 48)).alloc (.cells #[.slice none 0 0, .int .i64 0, .int .i64 0] 102)) w.heap.size 48 #[.int .i64 h, .slice ao yo.length co, .int .i64 f, .int .i64 l, .slice a z.length c] from Boxes.step (World.alloc_heap_new w _) (al_b _ _))
  have hy : Boxes ((w.alloc (.cells #[.int .i64 h, .slice ao yo.length co, .int .i64 f, .int .i64 l, .slice a z.length c] 48)).alloc (.cells #[.slice none 0 0, .int .i64 0, .int .i64 0] 102)) (w.heap.size + 1) 102 #[.slice none 0 0, .int .i64 0, .int .i64 0] := by
    have : Boxes ((w.alloc (.cells #[.int .i64 h, .slice ao yo.length co, .int .i64 f, .int .i64 l, .slice a z.length c] 48)).alloc (.cells #[.slice none 0 0, .int .i64 0, .int .i64 0] 102)) (w.alloc (.cells #[.int .i64 h, .slice ao yo.length co, .int .i64 f, .int .i64 l, .slice a z.length c] 48)).heap.size 102 #[.slice none 0 0, .int .i64 0, .int .i64 0] := World.alloc_heap_new _ _
    simp only [World.size_alloc] at this
    exact this
  have HY := Lib.hid hy
  have HB1 := Lib.hid hb2
  have HR := Lib.hid (hr.below hb2 (Nat.le_refl _))
  have HG := Lib.hid (hg.below hb2 (Nat.le_refl _))
  have HH := Lib.hid (hh.below hb2 (Nat.le_refl _))
  have hs0 : ((w.alloc (.cells #[.int .i64 h, .slice ao yo.length co, .int .i64 f, .int .i64 l, .slice a z.length c] 48)).alloc (.cells #[.slice none 0 0, .int .i64 0, .int .i64 0] 102)).heap.size = w.heap.size + 2 := by simp
  clear hr hl hb2 hg hh hy
  by_cases hok : SchOk h yo f l z ∧ IsGrp h gs
  case neg =>
    have hc := wi_grp (hs := hs) hok
    have HC := Lib.hid hc.2.1
    have t1 : (grpCode h f l yo z gs != 0) = true := by rcases hc.1 with e | e <;> rw [e] <;> rfl
    have HNO := Lib.hid hok
    clear hok hc
    go_enter Try.func74, Try.ntmps74
    go_wp2_with fail
    refine (groupWithin_any h f l ao yo co a z c ag gs cg _ HR.out HL.out HG.out hlg).mono ?_
    generalize (w.alloc (.cells #[.int .i64 h, .slice ao yo.length co, .int .i64 f, .int .i64 l, .slice a z.length c] 48)).alloc (.cells #[.slice none 0 0, .int .i64 0, .int .i64 0] 102) = w1 at *
    rintro e w2 ⟨rfl, hb2⟩
    have HB2 := Lib.hid (HB1.out.trans (hb2.mono (by omega)))
    have HY2 := Lib.hid (HY.out.step hb2)
    clear hb2 HX HG HR HY HB1 HH
    have e0 := HY2.out.m0
    have e1 := HY2.out.m1
    have e2 := HY2.out.m2
    have f0 := HY2.out.frozen 0
    have f1 := HY2.out.frozen 1
    have f2 := HY2.out.frozen 2
    have el := HY2.out.lt
    go_wp2_with fail
    refine bodyPost_ret (v := .tuple #[.agg #[.slice none 0 0, .int .i64 0, .int .i64 0], .int .i64 (grpCode h f l yo z gs)]) (by simp [results, Try.results74, go_sem, e0, e1, e2]) rfl ⟨⟨none, 0, 0, 0, 0, by rw [HC.out], fun k => absurd k.1 HNO.out⟩, ?_⟩
    exact (((HB2.out.setCell (p := ⟨w.heap.size + 1, 0, none⟩) (by show w.heap.size ≤ w.heap.size + 1; omega) _).setCell (p := ⟨w.heap.size + 1, 1, none⟩) (by show w.heap.size ≤ w.heap.size + 1; omega) _).setCell (p := ⟨w.heap.size + 1, 2, none⟩) (by show w.heap.size ≤ w.heap.size + 1; omega) _)
  have HC := Lib.hid (grp_yes hok.1 hok.2)
  have HO := Lib.hid hok
  have HFP := Lib.hid (show Prm f from hok.1.2.1.1)
  clear hok
  go_enter Try.func74, Try.ntmps74
  go_wp2_with fail
  refine (groupWithin_any h f l ao yo co a z c ag gs cg _ HR.out HL.out HG.out hlg).mono ?_
  generalize (w.alloc (.cells #[.int .i64 h, .slice ao yo.length co, .int .i64 f, .int .i64 l, .slice a z.length c] 48)).alloc (.cells #[.slice none 0 0, .int .i64 0, .int .i64 0] 102) = w1 at *
  rintro e w2 ⟨rfl, hb2⟩
  rw [HC.out.1, HC.out.2.1]
  have HB2 := Lib.hid (HB1.out.trans (hb2.mono (by omega)))
  have HY2 := Lib.hid (HY.out.step hb2)
  have HR2 := Lib.hid (HR.out.step hb2)
  have HX2 := Lib.hid (HX.out.step hb2)
  have HH2 := Lib.hid (HH.out.step hb2)
  have hs2 : w.heap.size + 2 ≤ w2.heap.size := by have := hb2.size; omega
  have c0 := HX2.out.s0
  have c1 := HX2.out.s1
  have c2 := HX2.out.s2
  have c3 := HX2.out.s3
  have c4 := HX2.out.s4
  have cl := HX2.out.lt
  clear hb2 HX HG HR HB1 HY HH hs0
  go_wp2_with fail
  refine (gridWithinO_any h f l ao yo co a z c gs w2 HR2.out HO.out.1 HO.out.2).mono ?_
  rintro e w3 ⟨⟨xa, xc, rfl, hgr⟩, hb3⟩
  have hb4 := al_b w3 (.cells #[.slice xa (partI yo gs).length xc, .int .i64 f, .int .i64 l] 102)
  have HGR := Lib.hid ((hgr.step hb4).mono (show w.heap.size + 2 ≤ w2.heap.size from hs2))
  have hx4 := (HX2.out.step hb3).step hb4
  have HX4 := Lib.hid hx4
  have HH4 := Lib.hid ((HH2.out.step hb3).step hb4)
  have HG4 := Lib.hid (show Boxes (w3.alloc (.cells #[.slice xa (partI yo gs).length xc, .int .i64 f, .int .i64 l] 102)) w3.heap.size 102 #[.slice xa (partI yo gs).length xc, .int .i64 f, .int .i64 l] from World.alloc_heap_new w3 _)
  have HB4 := Lib.hid ((HB2.out.trans (hb3.mono (by omega))).trans (hb4.mono (by have := hb3.size; omega)))
  have HY4 := Lib.hid ((HY2.out.step hb3).step hb4)
  have d2 := hx4.s2
  have dl := hx4.lt
  have hs3 : w.heap.size + 2 ≤ w3.heap.size := by have := hb3.size; omega
  clear hgr hb3 hb4 hx4 c0 c1 c2 c3 c4 cl HX2 HH2 HY2 HB2 HR2
  go_upto_region 5 with fail
  generalize w3.alloc (.cells #[.slice xa (partI yo gs).length xc, .int .i64 f, .int .i64 l] 102) = w4 at *
  have g0 := HG4.out.m0
  have g1 := HG4.out.m1
  have g2 := HG4.out.m2
  have gl := HG4.out.lt
  have HY2 := Lib.hid HY4.out
  have HB2 := Lib.hid HB4.out
  have e0 := HY2.out.m0
  have e1 := HY2.out.m1
  have e2 := HY2.out.m2
  have f0 := HY2.out.frozen 0
  have f1 := HY2.out.frozen 1
  have f2 := HY2.out.frozen 2
  have el := HY2.out.lt
  by_cases hlen : hs.length = (partI yo gs).length
  case neg =>
    have hne : ((hs.length : Int) != ((partI yo gs).length : Int)) = true := by simp; omega
    have hne0 : ¬ (hs.length : Int) = ((partI yo gs).length : Int) := by omega
    have HW := Lib.hid (wi_row HO.out (hs := hs) (fun k => hlen (by have := k.1; omega)))
    have HNO := Lib.hid (show ¬ RowOk f ((partI yo gs).length : Int) hs from fun k => hlen (by have := k.1; omega))
    clear hlen
    go_wp2_with fail
    refine bodyPost_ret (v := .tuple #[.agg #[.slice none 0 0, .int .i64 0, .int .i64 0], .int .i64 2]) (by simp [results, Try.results74, go_sem, e0, e1, e2]) rfl ⟨⟨none, 0, 0, 0, 0, by rw [HW.out.1], fun k => absurd k.2 HNO.out⟩, ?_⟩
    exact (((HB2.out.setCell (p := ⟨w.heap.size + 1, 0, none⟩) (by show w.heap.size ≤ w.heap.size + 1; omega) _).setCell (p := ⟨w.heap.size + 1, 1, none⟩) (by show w.heap.size ≤ w.heap.size + 1; omega) _).setCell (p := ⟨w.heap.size + 1, 2, none⟩) (by show w.heap.size ≤ w.heap.size + 1; omega) _)
  have hne : ((hs.length : Int) != ((partI yo gs).length : Int)) = false := by simp; omega
  have HLEN := Lib.hid hlen
  clear hlen
  go_wp2_with fail
  refine (areElems_any f ah hs ch _ HH4.out hlh).mono ?_
  rintro e w' ⟨rfl, rfl⟩
  by_cases he : Elems f hs
  case neg =>
    have HT := Lib.hid (tell_false (p := Elems f hs ∧ Prm f) fun k => he k.1)
    have HW := Lib.hid (wi_row HO.out (hs := hs) (fun k => he k.2))
    have HNO := Lib.hid (show ¬ RowOk f ((partI yo gs).length : Int) hs from fun k => he k.2)
    clear he
    rw [HT.out]
    go_wp2_with fail
    refine bodyPost_ret (v := .tuple #[.agg #[.slice none 0 0, .int .i64 0, .int .i64 0], .int .i64 2]) (by simp [results, Try.results74, go_sem, e0, e1, e2]) rfl ⟨⟨none, 0, 0, 0, 0, by rw [HW.out.1], fun k => absurd k.2 HNO.out⟩, ?_⟩
    exact (((HB2.out.setCell (p := ⟨w.heap.size + 1, 0, none⟩) (by show w.heap.size ≤ w.heap.size + 1; omega) _).setCell (p := ⟨w.heap.size + 1, 1, none⟩) (by show w.heap.size ≤ w.heap.size + 1; omega) _).setCell (p := ⟨w.heap.size + 1, 2, none⟩) (by show w.heap.size ≤ w.heap.size + 1; omega) _)
  have HT := Lib.hid (tell_true (p := Elems f hs ∧ Prm f) ⟨he, HFP.out⟩)
  have HW := Lib.hid (wi_ok HO.out (hs := hs) ⟨by have := HLEN.out; omega, he⟩)
  clear he
  rw [HT.out]
  go_wp2_with fail
  refine bodyPost_ret (v := .tuple #[.agg #[.slice xa (partI yo gs).length xc, .int .i64 f, .int .i64 l], .int .i64 0]) (by simp [results, Try.results74, go_sem, e0, e1, e2]) rfl ⟨⟨xa, (partI yo gs).length, xc, f, l, by rw [HW.out.1], fun k => ⟨(partZ_len yo z gs).symm, rfl, rfl, ?_⟩⟩, ?_⟩
  · exact ((((HGR.out.set (q := ⟨w.heap.size + 1, 0, none⟩) (by show w.heap.size + 1 < w.heap.size + 2; omega) _).set (q := ⟨w.heap.size + 1, 1, none⟩) (by show w.heap.size + 1 < w.heap.size + 2; omega) _).set (q := ⟨w.heap.size + 1, 2, none⟩) (by show w.heap.size + 1 < w.heap.size + 2; omega) _).grid)
  · exact (((HB2.out.setCell (p := ⟨w.heap.size + 1, 0, none⟩) (by show w.heap.size ≤ w.heap.size + 1; omega) _).setCell (p := ⟨w.heap.size + 1, 1, none⟩) (by show w.heap.size ≤ w.heap.size + 1; omega) _).setCell (p := ⟨w.heap.size + 1, 2, none⟩) (by show w.heap.size ≤ w.heap.size + 1; omega) _)

set_option maxRecDepth 100000 in
set_option maxHeartbeats 2000000 in
theorem l04With_any (q0 : Nat) (h f l : Int) (ao : Option Addr) (yo : List Int) (co : Nat) (a : Option Addr) (z : List (List Int)) (c : Nat) (ag : Option Addr) (gs : List Int) (cg : Nat) (ah : Option Addr) (hs : List Int) (ch : Nat) (w : World) (hbx : Boxes w q0 48 #[.int .i64 h, .slice ao yo.length co, .int .i64 f, .int .i64 l, .slice a z.length c]) (hr : InS w ao yo a z) (hl : LenS yo z) (hg : Ints w ag gs) (hlg : gs.length ≤ 9223372036854775807) (hh : Ints w ah hs) (hlh : hs.length ≤ 9223372036854775807) :
    Calls Try.prog 69 #[.pointer (some ⟨q0, 0, none⟩), .slice ag gs.length cg, .slice ah hs.length ch] w fun e w' => e = .returned (.int .i64 (wiCode h f l yo z gs hs)) ∧ Below w.heap.size w w' := by
  have HX := Lib.hid hbx
  have HR := Lib.hid hr
  have HL := Lib.hid hl
  have HG := Lib.hid hg
  have HH := Lib.hid hh
  clear hbx hr hl hg hh
  by_cases hok : SchOk h yo f l z ∧ IsGrp h gs
  case neg =>
    have hc := wi_grp (hs := hs) hok
    have HC := Lib.hid hc.2.1
    have t1 : (grpCode h f l yo z gs == 0) = false := by rcases hc.1 with e | e <;> rw [e] <;> rfl
    have t2 : ¬ grpCode h f l yo z gs = 0 := by rcases hc.1 with e | e <;> omega
    clear hok hc
    go_enter Try.func69, Try.ntmps69
    go_wp2_with fail
    refine (l04Asked_any q0 h f l ao yo co a z c ag gs cg _ HX.out HR.out HL.out HG.out hlg).mono ?_
    rintro e w2 ⟨rfl, hq⟩
    have HB2 := Lib.hid (quiet_below hq)
    clear hq HX HG HR
    go_wp2_with fail
    go_quiet (fail)
    go_wp2_with fail
    go_ret
    exact ⟨by rw [HC.out]; rfl, by first | exact HB2.out | exact HB2.out.trans ((quiet_below ⟨_, rfl⟩).mono HB2.out.size)⟩
  have HC := Lib.hid (grp_yes hok.1 hok.2)
  have HO := Lib.hid hok
  have hf2 : 2 ≤ f := hok.1.2.1.1.1
  have hf31 : f ≤ 31 := hok.1.2.1.1.2.1
  have HYL := Lib.hid (show yo.length ≤ 20 from by have := hok.1.2.2.2.1; have := hok.1.2.1.2.2.1; omega)
  clear hok
  go_enter Try.func69, Try.ntmps69
  go_wp2_with fail
  refine (l04Asked_any q0 h f l ao yo co a z c ag gs cg _ HX.out HR.out HL.out HG.out hlg).mono ?_
  rintro e w2 ⟨rfl, hq⟩
  rw [HC.out.1]
  have hbq := quiet_below hq
  have HB2 := Lib.hid hbq
  have HX2 := Lib.hid (HX.out.step hbq)
  have HR2 := Lib.hid (HR.out.step hbq)
  have HG2 := Lib.hid (HG.out.step hbq)
  have HH2 := Lib.hid (HH.out.step hbq)
  have hs2 := hbq.size
  clear hq hbq HX HR HG HH
  have MK := Lib.hid (show ∀ w' : World, Below w2.heap.size w2 w' → w'.cell? ⟨q0, 2, none⟩ = some (.int .i64 f) from fun w' hw => (HX2.out.step hw).s2)
  go_wp2_with fail
  by_cases ho : RowOk f ((partI yo gs).length : Int) hs
  · have HT := Lib.hid (tell_true ho)
    have HW := Lib.hid (wi_ok HO.out ho)
    clear ho
    go_region_held3 (fun w' => w'.cell? ⟨q0, 2, none⟩ = some (.int .i64 f)) (first | exact MK.out _ (drew_step _) | exact MK.out _ HB3.out | fail) (first
      | (go_at_call 122; refine (l04Held_any q0 h f l ao yo co a z c ag gs cg _ (HX2.out.step (drew_step _)) (HR2.out.step (drew_step _)) HYL.out (HG2.out.step (drew_step _)) hlg).mono ?_; rintro e w3 ⟨⟨v3, rfl, hv3⟩, hb3⟩; obtain ⟨ra, rc, rfl⟩ := rowForm hv3; have HB3 := Lib.hid (show Below w2.heap.size w2 w3 from (drew_step w2).trans hb3); have HH3 := Lib.hid (HH2.out.step HB3.out); clear hv3 hb3)
      | (go_at_call 121; refine (l03Row_any f ((partI yo gs).length : Int) ah hs ch _ HH3.out hlh hf2 hf31).mono ?_; rintro e w4 ⟨rfl, rfl⟩; rw [HT.out]))
    all_goals (
      go_wp2_with fail
      go_ret
      exact ⟨by rw [HW.out.1]; rfl, HB2.out.trans (HB3.out.mono hs2)⟩)
  · have HT := Lib.hid (tell_false ho)
    have HW := Lib.hid (wi_row HO.out ho)
    clear ho
    go_region_held3 (fun w' => w'.cell? ⟨q0, 2, none⟩ = some (.int .i64 f)) (first | exact MK.out _ (drew_step _) | exact MK.out _ HB3.out | fail) (first
      | (go_at_call 122; refine (l04Held_any q0 h f l ao yo co a z c ag gs cg _ (HX2.out.step (drew_step _)) (HR2.out.step (drew_step _)) HYL.out (HG2.out.step (drew_step _)) hlg).mono ?_; rintro e w3 ⟨⟨v3, rfl, hv3⟩, hb3⟩; obtain ⟨ra, rc, rfl⟩ := rowForm hv3; have HB3 := Lib.hid (show Below w2.heap.size w2 w3 from (drew_step w2).trans hb3); have HH3 := Lib.hid (HH2.out.step HB3.out); clear hv3 hb3)
      | (go_at_call 121; refine (l03Row_any f ((partI yo gs).length : Int) ah hs ch _ HH3.out hlh hf2 hf31).mono ?_; rintro e w4 ⟨rfl, rfl⟩; rw [HT.out]))
    all_goals (
      go_wp2_with fail
      go_ret
      exact ⟨by rw [HW.out.1]; rfl, HB2.out.trans (HB3.out.mono hs2)⟩)
end Go.Proofs.Ytnebkhelobpkpaa

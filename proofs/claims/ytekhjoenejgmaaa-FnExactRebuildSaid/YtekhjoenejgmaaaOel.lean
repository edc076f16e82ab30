/- secretElements of the program; OpeningElements and SchemeOpens: both contracts. -/
import Derived.Test.YtekhjoenejgmaaaGwi
import Derived.Test.YtekhjoenejgmaaaLpa
import Derived.Test.YtekhjoenejgmaaaSf
import Derived.Deep.RegionHeld3
namespace Go.Proofs.Ytekhjoenejgmaaa
open Go.RowKit Go.Deep Go.Joins
set_option linter.unusedVariables false

set_option maxRecDepth 100000 in
set_option maxHeartbeats 4000000 in
theorem secretElements_any (p : Int) (n : Nat) (a : Option Addr) (m ca : Nat) (z : List (List Int)) (w : World) (hm : m = z.length) (hg : GoodM p n z) (h0 : 0 < n) (hn : n ≤ 999) (hz : z.length ≤ 999) (hr : GridR w a p z) :
    Calls Try.prog 96 #[.agg #[.slice a m ca, .int .i64 p, .int .i64 ((n : Nat) : Int)]] w (GivesIntsCode w (solL p z.length (turned z n) (fstL n)) (solCode p z.length (turned z n) (fstL n))) := by
  subst hm
  have HG := Lib.hid hg
  have hb1 := al_b w (.cells #[.slice a z.length ca, .int .i64 p, .int .i64 ((n : Nat) : Int)] 78)
  have HX := Lib.hid (show Boxes (w.alloc (.cells #[.slice a z.length ca, .int .i64 p, .int .i64 ((n : Nat) : Int)] 78)) w.heap.size 78 #[.slice a z.length ca, .int .i64 p, .int .i64 ((n : Nat) : Int)] from World.alloc_heap_new w _)
  have HR := Lib.hid (hr.below hb1 (Nat.le_refl _))
  have HB1 := Lib.hid hb1
  have HROW := Lib.hid (fun r (hr : r < z.length) => (hg.rows r hr).1)
  have HV := Lib.hid (sn_yes (n := z.length) (show ValOk p (turned z n) (fstL n) from ⟨by unfold turned; rw [tab_len, fstL_len], fstL_elems hg.prm.1 n⟩))
  clear hr hb1 hg
  go_enter Try.func96, Try.ntmps96
  go_wp2_with fail
  generalize w.alloc (.cells #[.slice a z.length ca, .int .i64 p, .int .i64 ((n : Nat) : Int)] 78) = w1 at *
  have hs1 := HB1.out.size
  have MK := Lib.hid (show ∀ w' : World, Below w1.heap.size w1 w' → w'.cell? ⟨w.heap.size, 0, none⟩ = some (.slice a z.length ca) ∧ w'.cell? ⟨w.heap.size, 1, none⟩ = some (.int .i64 p) ∧ w'.cell? ⟨w.heap.size, 2, none⟩ = some (.int .i64 ((n : Nat) : Int)) from fun w' hw => ⟨(HX.out.step hw).m0, (HX.out.step hw).m1, (HX.out.step hw).m2⟩)
  go_region_held3 (fun w' => w'.cell? ⟨w.heap.size, 0, none⟩ = some (.slice a z.length ca) ∧ w'.cell? ⟨w.heap.size, 1, none⟩ = some (.int .i64 p) ∧ w'.cell? ⟨w.heap.size, 2, none⟩ = some (.int .i64 ((n : Nat) : Int))) (first | exact MK.out _ (drew_step _) | exact MK.out _ HB3.out | exact MK.out _ HB4.out | exact MK.out _ HB5.out | fail) (first
    | (go_at_call 66; refine (transposed_any p n a ca z _ (HR.out.step (drew_step _)) (by omega) (by omega) HROW.out).mono ?_; rintro e w3 ⟨⟨v3, us3, rfl, ho3⟩, hb3⟩; obtain ⟨ta, tc, rfl⟩ := ho3.form; have HG3 := Lib.hid (grid_of ho3); have HB3 := Lib.hid (show Below w1.heap.size w1 w3 from (drew_step w1).trans hb3); clear ho3 hb3)
    | (go_at_call 100; refine (secretList_any n _ h0 (by omega)).mono ?_; rintro e w4 ⟨⟨v4, rfl, ho4⟩, hb4⟩; obtain ⟨la, lc, rfl⟩ := rowForm ho4; have HL4 := Lib.hid (Ints_of_own ho4); have HG4 := Lib.hid (HG3.out.step hb4); have HB4 := Lib.hid (HB3.out.trans (hb4.mono HB3.out.size)); clear ho4 hb4)
    | (go_at_call 82; refine (solution_any p z.length ta tc (turned z n) la (fstL n) lc _ (turned_good HG.out (by omega)) hz HG4.out HL4.out (by rw [fstL_len]; omega)).mono ?_; rintro e w5 ⟨⟨u, rfl, hu⟩, hb5⟩; have HB5 := Lib.hid (HB4.out.trans (hb5.mono HB4.out.size)); have HU := Lib.hid (hu.mono (show w.heap.size ≤ _ from Nat.le_trans hs1 HB4.out.size)); clear hu hb5))
  all_goals (
    go_wp2_with fail
    go_ret2
    exact ⟨⟨_, by rw [← HV.out.2]; rfl, by rw [← HV.out.1]; exact HU.out⟩, HB1.out.trans (HB5.out.mono hs1)⟩)

/-- What a scheme and a group give: b for a bad scheme, r for a list that is no group of it, else o. -/
noncomputable def oeSel {α : Type} (h f l : Int) (yo : List Int) (z : List (List Int)) (gs : List Int) (b r o : α) : α := if tell (SchOk h yo f l z) = true then (if tell (IsGrp h gs) = true then o else r) else b
theorem oe_bad {α : Type} {h f l : Int} {yo : List Int} {z : List (List Int)} {gs : List Int} (k : ¬ SchOk h yo f l z) (b r o : α) : oeSel h f l yo z gs b r o = b := by rw [oeSel, tell_false k]; rfl
theorem oe_rng {α : Type} {h f l : Int} {yo : List Int} {z : List (List Int)} {gs : List Int} (k : SchOk h yo f l z) (q : ¬ IsGrp h gs) (b r o : α) : oeSel h f l yo z gs b r o = r := by rw [oeSel, tell_true k, tell_false q]; rfl
theorem oe_ok {α : Type} {h f l : Int} {yo : List Int} {z : List (List Int)} {gs : List Int} (k : SchOk h yo f l z) (q : IsGrp h gs) (b r o : α) : oeSel h f l yo z gs b r o = o := by rw [oeSel, tell_true k, tell_true q]; rfl
section
variable (h f l : Int) (yo : List Int) (z : List (List Int)) (gs : List Int)
noncomputable def opL : List Int := solL f (partZ yo z gs).length (turned (partZ yo z gs) l.toNat) (fstL l.toNat)
noncomputable def opCode : Int := solCode f (partZ yo z gs).length (turned (partZ yo z gs) l.toNat) (fstL l.toNat)
noncomputable def oeL : List Int := oeSel h f l yo z gs [] [] (opL f l yo z gs)
noncomputable def oeCode : Int := oeSel h f l yo z gs 1 2 (opCode f l yo z gs)
noncomputable def soB : Bool := oeCode h f l yo z gs == 0
noncomputable def soCode : Int := if oeCode h f l yo z gs = 6 then 0 else oeCode h f l yo z gs
theorem oe_grp (k : ¬ (SchOk h yo f l z ∧ IsGrp h gs)) : (grpCode h f l yo z gs = 1 ∨ grpCode h f l yo z gs = 2) ∧ oeL h f l yo z gs = [] ∧ oeCode h f l yo z gs = grpCode h f l yo z gs := by
  by_cases h1 : SchOk h yo f l z
  · have h2 : ¬ IsGrp h gs := fun q => k ⟨h1, q⟩
    unfold oeL oeCode
    rw [oe_rng h1 h2, oe_rng h1 h2, (grp_no h1 h2).1]
    exact ⟨.inr rfl, rfl, rfl⟩
  · unfold oeL oeCode
    rw [oe_bad h1, oe_bad h1, (grp_bad (gs := gs) h1).1]
    exact ⟨.inl rfl, rfl, rfl⟩
theorem oeL_len : (oeL h f l yo z gs).length ≤ 1048576 := by
  by_cases h1 : SchOk h yo f l z
  · by_cases h2 : IsGrp h gs
    · unfold oeL opL
      rw [oe_ok h1 h2]
      have := partI_len yo gs
      exact solL_len (by rw [partZ_len]; have := h1.2.2.2.1; have := h1.2.1.2.2.1; omega)
    · unfold oeL; rw [oe_rng h1 h2]; simp
  · unfold oeL; rw [oe_bad h1]; simp
end

set_option maxRecDepth 100000 in
set_option maxHeartbeats 1000000 in
theorem implOe_any (h f l : Int) (ao : Option Addr) (yo : List Int) (co : Nat) (a : Option Addr) (z : List (List Int)) (c : Nat) (ag : Option Addr) (gs : List Int) (cg : Nat) (w : World) (hr : InS w ao yo a z) (hl : LenS yo z) (hg : Ints w ag gs) (hlg : gs.length ≤ 9223372036854775807) :
    Calls Try.prog 43 #[.agg #[.int .i64 h, .slice ao yo.length co, .int .i64 f, .int .i64 l, .slice a z.length c], .slice ag gs.length cg] w (GivesIntsCode w (oeL h f l yo z gs) (oeCode h f l yo z gs)) := by
  have HL := Lib.hid hl
  have hb1 := al_b w (.cells #[.int .i64 h, .slice ao yo.length co, .int .i64 f, .int .i64 l, .slice a z.length c] 33)
  have HX := Lib.hid (show Boxes (w.alloc (.cells #[.int .i64 h, .slice ao yo.length co, .int .i64 f, .int .i64 l, .slice a z.length c] 33)) w.heap.size 33 #[.int .i64 h, .slice ao yo.length co, .int .i64 f, .int .i64 l, .slice a z.length c] from World.alloc_heap_new w _)
  have HB1 := Lib.hid hb1
  have HR := Lib.hid (hr.step hb1)
  have HG := Lib.hid (hg.step hb1)
  clear hr hl hb1 hg
  by_cases hok : SchOk h yo f l z ∧ IsGrp h gs
  case neg =>
    have hc := oe_grp h f l yo z gs hok
    have HC := Lib.hid hc.2
    have t1 : (grpCode h f l yo z gs != 0) = true := by rcases hc.1 with e | e <;> rw [e] <;> rfl
    clear hok hc
    go_enter Try.func43, Try.ntmps43
    go_wp2_with fail
    refine (groupWithin_any h f l ao yo co a z c ag gs cg _ HR.out HL.out HG.out hlg).mono ?_
    rintro e w2 ⟨rfl, hb2⟩
    have HB2 := Lib.hid (chain HB1.out hb2)
    clear hb2
    go_wp2_with fail
    go_ret2
    exact ⟨⟨_, by rw [HC.out.2]; rfl, by rw [HC.out.1]; exact OwnI.nil _ _⟩, HB2.out⟩
  have HC := Lib.hid (grp_yes hok.1 hok.2)
  have HO := Lib.hid hok
  have HOL := Lib.hid (show oeL h f l yo z gs = opL f l yo z gs ∧ oeCode h f l yo z gs = opCode f l yo z gs from by unfold oeL oeCode; rw [oe_ok hok.1 hok.2, oe_ok hok.1 hok.2]; exact ⟨rfl, rfl⟩)
  have hl1 : 1 ≤ l := hok.1.2.2.1
  have hl12 : l ≤ 12 := hok.1.2.1.2.1.2
  have HPG := Lib.hid (part_good hok.1 gs)
  have HPL := Lib.hid (show (partZ yo z gs).length ≤ 20 from by rw [partZ_len]; have := partI_len yo gs; have := hok.1.2.2.2.1; have := hok.1.2.1.2.2.1; omega)
  clear hok
  go_enter Try.func43, Try.ntmps43
  go_wp2_with fail
  refine (groupWithin_any h f l ao yo co a z c ag gs cg _ HR.out HL.out HG.out hlg).mono ?_
  generalize w.alloc (.cells #[.int .i64 h, .slice ao yo.length co, .int .i64 f, .int .i64 l, .slice a z.length c] 33) = w1 at *
  rintro e w2 ⟨rfl, hb2⟩
  rw [HC.out.1, HC.out.2.1]
  have HB2 := Lib.hid (chain HB1.out hb2)
  have HR2 := Lib.hid (HR.out.step hb2)
  have hbx := HX.out.step hb2
  have c0 := hbx.s0
  have c1 := hbx.s1
  have c2 := hbx.s2
  have c3 := hbx.s3
  have c4 := hbx.s4
  have cl := hbx.lt
  clear hb2 hbx HX HG HR HB1
  go_wp2_with fail
  refine (gridWithin_any h f l ao yo co a z c gs w2 HR2.out HO.out.1 HO.out.2).mono ?_
  rintro e w3 ⟨⟨xa, xc, rfl, hgr⟩, hb3⟩
  have HGR := Lib.hid hgr
  have HB3 := Lib.hid (chain HB2.out hb3)
  clear hgr hb3 c0 c1 c2 c3 c4 cl
  obtain ⟨n, rfl⟩ : ∃ n : Nat, l = (n : Int) := ⟨l.toNat, by omega⟩
  simp only [Int.toNat_natCast] at HPG
  go_wp2_with fail
  refine (secretElements_any f n xa (partI yo gs).length xc (partZ yo z gs) w3 (partZ_len yo z gs).symm HPG.out (by omega) (by omega) (by have := HPL.out; omega) HGR.out).mono ?_
  rintro e w4 ⟨⟨u, rfl, hu⟩, hb4⟩
  have HU := Lib.hid (hu.mono HB3.out.size)
  have HB4 := Lib.hid (chain HB3.out hb4)
  clear hu hb4
  go_wp2_with fail
  go_ret2
  refine ⟨⟨_, by rw [HOL.out.2, opCode, Int.toNat_natCast]; rfl, ?_⟩, HB4.out⟩
  rw [HOL.out.1, opL, Int.toNat_natCast]
  exact HU.out

set_option maxRecDepth 100000 in
set_option maxHeartbeats 1000000 in
theorem specOe_any (h f l : Int) (ao : Option Addr) (yo : List Int) (co : Nat) (a : Option Addr) (z : List (List Int)) (c : Nat) (ag : Option Addr) (gs : List Int) (cg : Nat) (w : World) (hr : InS w ao yo a z) (hl : LenS yo z) (hg : Ints w ag gs) (hlg : gs.length ≤ 9223372036854775807) :
    Calls Try.prog 42 #[.agg #[.int .i64 h, .slice ao yo.length co, .int .i64 f, .int .i64 l, .slice a z.length c], .slice ag gs.length cg] w (GivesIntsCode w (oeL h f l yo z gs) (oeCode h f l yo z gs)) := by
  have HL := Lib.hid hl
  have hb1 := al_b w (.cells #[.int .i64 h, .slice ao yo.length co, .int .i64 f, .int .i64 l, .slice a z.length c] 33)
  have HX := Lib.hid (show Boxes (w.alloc (.cells #[.int .i64 h, .slice ao yo.length co, .int .i64 f, .int .i64 l, .slice a z.length c] 33)) w.heap.size 33 #[.int .i64 h, .slice ao yo.length co, .int .i64 f, .int .i64 l, .slice a z.length c] from World.alloc_heap_new w _)
  have HB1 := Lib.hid hb1
  have HR := Lib.hid (hr.step hb1)
  have HG := Lib.hid (hg.step hb1)
  clear hr hl hb1 hg
  by_cases hok : SchOk h yo f l z ∧ IsGrp h gs
  case neg =>
    have hc := oe_grp h f l yo z gs hok
    have HC := Lib.hid hc.2
    have t1 : (grpCode h f l yo z gs != 0) = true := by rcases hc.1 with e | e <;> rw [e] <;> rfl
    clear hok hc
    go_enter Try.func42, Try.ntmps42
    go_wp2_with fail
    refine (l04Asked_any w.heap.size h f l ao yo co a z c ag gs cg _ HX.out HR.out HL.out HG.out hlg).mono ?_
    generalize w.alloc (.cells #[.int .i64 h, .slice ao yo.length co, .int .i64 f, .int .i64 l, .slice a z.length c] 33) = w1 at *
    rintro e w2 ⟨rfl, hq⟩
    have hb2 := chain HB1.out (quiet_below hq)
    have hsz := hb2.size
    clear hq
    go_wp2_with fail
    go_ret2
    refine ⟨⟨_, by rw [HC.out.2]; rfl, ?_⟩, hb2.alloc hsz _⟩
    rw [HC.out.1]
    exact World.ownsRow_made w2 #[] 0 hsz (by unfold maxLen; omega) rfl
  have HC := Lib.hid (grp_yes hok.1 hok.2)
  have HO := Lib.hid hok
  have HOL := Lib.hid (show oeL h f l yo z gs = opL f l yo z gs ∧ oeCode h f l yo z gs = opCode f l yo z gs from by unfold oeL oeCode; rw [oe_ok hok.1 hok.2, oe_ok hok.1 hok.2]; exact ⟨rfl, rfl⟩)
  have hl1 : 1 ≤ l := hok.1.2.2.1
  have hl12 : l ≤ 12 := hok.1.2.1.2.1.2
  have hf2 : 2 ≤ f := hok.1.2.1.1.1
  have HPG := Lib.hid (part_good hok.1 gs)
  have HPL := Lib.hid (show (partZ yo z gs).length ≤ 20 from by rw [partZ_len]; have := partI_len yo gs; have := hok.1.2.2.2.1; have := hok.1.2.1.2.2.1; omega)
  clear hok
  go_enter Try.func42, Try.ntmps42
  go_wp2_with fail
  refine (l04Asked_any w.heap.size h f l ao yo co a z c ag gs cg _ HX.out HR.out HL.out HG.out hlg).mono ?_
  generalize w.alloc (.cells #[.int .i64 h, .slice ao yo.length co, .int .i64 f, .int .i64 l, .slice a z.length c] 33) = w1 at *
  rintro e w2 ⟨rfl, hq⟩
  rw [HC.out.1]
  have hbq := quiet_below hq
  have HB2 := Lib.hid (chain HB1.out hbq)
  have HR2 := Lib.hid (HR.out.step hbq)
  have HX2 := Lib.hid (HX.out.step hbq)
  have HG2 := Lib.hid (HG.out.step hbq)
  clear hq hbq HX HG HR HB1
  go_wp2_with fail
  refine (l04Part_any w.heap.size h f l ao yo co a z c ag gs cg w2 HX2.out HR2.out HO.out.1 HG2.out hlg).mono ?_
  rintro e w3 ⟨⟨va, vc, us, rfl, ho⟩, hb3⟩
  obtain ⟨n, rfl⟩ : ∃ n : Nat, l = (n : Int) := ⟨l.toNat, by omega⟩
  simp only [Int.toNat_natCast] at HPG
  have hb4 := al_b w3 (.cells #[.int .i64 f, .int .i64 (n : Int), .slice va (partI yo gs).length vc] 31)
  have hbx : Boxes (w3.alloc (.cells #[.int .i64 f, .int .i64 (n : Int), .slice va (partI yo gs).length vc] 31)) w3.heap.size 31 #[.int .i64 f, .int .i64 ((n : Nat) : Int), .slice va (partZ yo z gs).length vc] := by
    rw [partZ_len]; exact World.alloc_heap_new w3 _
  have hx4 := (HX2.out.step hb3).step hb4
  have c3 := hx4.s3
  have cl := hx4.lt
  have HBX := Lib.hid hbx
  have HRZ := Lib.hid ((own_rows3 ho).below hb4 (Nat.le_refl _))
  have HB4 := Lib.hid ((chain HB2.out hb3).trans (hb4.mono (chain HB2.out hb3).size))
  clear ho hbx hb4 hx4 hb3
  go_wp2_with fail
  refine (l04First_any n _ (by omega) (by omega)).mono ?_
  generalize w3.alloc (.cells #[.int .i64 f, .int .i64 (n : Int), .slice va (partI yo gs).length vc] 31) = w4 at *
  rintro e w5 ⟨⟨v5, rfl, hv5⟩, hb5⟩
  obtain ⟨la, lc, rfl⟩ := rowForm hv5
  have HL5 := Lib.hid (Ints_of_own hv5)
  have HBX5 := Lib.hid (HBX.out.step hb5)
  have HRZ5 := Lib.hid (HRZ.out.below hb5 (Nat.le_refl _))
  have HB5 := Lib.hid (HB4.out.trans (hb5.mono HB4.out.size))
  have hs5 := HB5.out.size
  clear hv5 hb5 c3 cl
  go_wp2_with fail
  refine (l03Combine_any w3.heap.size n vc lc f va la (partZ yo z gs) (fstL n) w5 HBX5.out HRZ5.out HPG.out (by omega) (by have := HPL.out; omega) HL5.out (fstL_len n) (fstL_elems hf2 n)).mono ?_
  rintro e w6 ⟨⟨u, rfl, hu⟩, hb6⟩
  have HU := Lib.hid (hu.mono hs5)
  have HB6 := Lib.hid (HB5.out.trans (hb6.mono hs5))
  have hs6 := HB6.out.size
  clear hu hb6
  by_cases hs : SolOk f (partZ yo z gs).length (turned (partZ yo z gs) n) (fstL n)
  · have HT := Lib.hid (tell_true hs)
    have HQ := Lib.hid (sol_yes hs)
    clear hs
    rw [HT.out]
    go_wp2_with fail
    go_ret2
    refine ⟨⟨_, by rw [HOL.out.2, opCode, Int.toNat_natCast, HQ.out.2]; rfl, ?_⟩, HB6.out⟩
    rw [HOL.out.1, opL, Int.toNat_natCast]
    exact HU.out
  · have HT := Lib.hid (tell_false hs)
    have HQ := Lib.hid (sol_no hs)
    clear hs
    rw [HT.out]
    go_wp2_with fail
    go_ret2
    refine ⟨⟨_, by rw [HOL.out.2, opCode, Int.toNat_natCast, HQ.out.2]; rfl, ?_⟩, HB6.out.alloc hs6 _⟩
    rw [HOL.out.1, opL, Int.toNat_natCast, HQ.out.1]
    exact World.ownsRow_made w6 #[] 0 hs6 (by unfold maxLen; omega) rfl
end Go.Proofs.Ytekhjoenejgmaaa

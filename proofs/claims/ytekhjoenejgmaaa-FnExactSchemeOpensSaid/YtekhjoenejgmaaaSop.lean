/- SchemeOpens: both contracts. -/
import Derived.Test.YtekhjoenejgmaaaOel
namespace Go.Proofs.Ytekhjoenejgmaaa
open Go.RowKit Go.Deep Go.Joins
set_option linter.unusedVariables false

set_option maxRecDepth 100000 in
set_option maxHeartbeats 1000000 in
theorem implSo_any (h f l : Int) (ao : Option Addr) (yo : List Int) (co : Nat) (a : Option Addr) (z : List (List Int)) (c : Nat) (ag : Option Addr) (gs : List Int) (cg : Nat) (w : World) (hr : InS w ao yo a z) (hl : LenS yo z) (hg : Ints w ag gs) (hlg : gs.length ≤ 9223372036854775807) :
    Calls Try.prog 41 #[.agg #[.int .i64 h, .slice ao yo.length co, .int .i64 f, .int .i64 l, .slice a z.length c], .slice ag gs.length cg] w fun e w' => e = .returned (.tuple #[.bool (soB h f l yo z gs), .int .i64 (soCode h f l yo z gs)]) ∧ Below w.heap.size w w' := by
  have HL := Lib.hid hl
  have hb1 := al_b w (.cells #[.int .i64 h, .slice ao yo.length co, .int .i64 f, .int .i64 l, .slice a z.length c] 33)
  have HX := Lib.hid (show Boxes (w.alloc (.cells #[.int .i64 h, .slice ao yo.length co, .int .i64 f, .int .i64 l, .slice a z.length c] 33)) w.heap.size 33 #[.int .i64 h, .slice ao yo.length co, .int .i64 f, .int .i64 l, .slice a z.length c] from World.alloc_heap_new w _)
  have HB1 := Lib.hid hb1
  have HR := Lib.hid (hr.step hb1)
  have HG := Lib.hid (hg.step hb1)
  clear hr hl hb1 hg
  clear HX
  have HB := Lib.hid (show soB h f l yo z gs = (oeCode h f l yo z gs == 0) from rfl)
  have HC := Lib.hid (show soCode h f l yo z gs = if oeCode h f l yo z gs = 6 then 0 else oeCode h f l yo z gs from rfl)
  obtain ⟨y, hy⟩ : ∃ y, oeCode h f l yo z gs = y := ⟨_, rfl⟩
  have HY := Lib.hid hy
  rw [hy] at HB HC
  clear hy
  by_cases h6 : y = 6
  · subst h6
    go_enter Try.func41, Try.ntmps41
    go_wp2_with fail
    refine (implOe_any h f l ao yo co a z c ag gs cg _ HR.out HL.out HG.out hlg).mono ?_
    rw [HY.out]
    rintro e w2 ⟨⟨u, rfl, -⟩, hb2⟩
    have HB2 := Lib.hid (HB1.out.trans (hb2.mono HB1.out.size))
    clear hb2
    go_wp2_with fail
    go_ret2
    exact ⟨by rw [HB.out, HC.out]; rfl, HB2.out⟩
  · have t6 : (y == 6) = false := by simpa using h6
    go_enter Try.func41, Try.ntmps41
    go_wp2_with fail
    refine (implOe_any h f l ao yo co a z c ag gs cg _ HR.out HL.out HG.out hlg).mono ?_
    rw [HY.out]
    rintro e w2 ⟨⟨u, rfl, -⟩, hb2⟩
    have HB2 := Lib.hid (HB1.out.trans (hb2.mono HB1.out.size))
    clear hb2
    go_wp2_with fail
    go_ret2
    exact ⟨by rw [HB.out, HC.out, if_neg h6]; rfl, HB2.out⟩

set_option maxRecDepth 100000 in
set_option maxHeartbeats 1000000 in
theorem l04Open_any (q0 : Nat) (h f l : Int) (ao : Option Addr) (yo : List Int) (co : Nat) (a : Option Addr) (z : List (List Int)) (c : Nat) (ag : Option Addr) (gs : List Int) (cg : Nat) (w : World) (hbx : Boxes w q0 33 #[.int .i64 h, .slice ao yo.length co, .int .i64 f, .int .i64 l, .slice a z.length c]) (hr : InS w ao yo a z) (hok : SchOk h yo f l z) (hg : Ints w ag gs) (hlg : gs.length ≤ 9223372036854775807) :
    Calls Try.prog 91 #[.pointer (some ⟨q0, 0, none⟩), .slice ag gs.length cg] w fun e w' => e = .returned (.bool (tell (SolOk f (partZ yo z gs).length (turned (partZ yo z gs) l.toNat) (fstL l.toNat)))) ∧ Below w.heap.size w w' := by
  have HX2 := Lib.hid hbx
  have HR2 := Lib.hid hr
  have HG2 := Lib.hid hg
  have HO := Lib.hid hok
  have hl1 : 1 ≤ l := hok.2.2.1
  have hl12 : l ≤ 12 := hok.2.1.2.1.2
  have hf2 : 2 ≤ f := hok.2.1.1.1
  have HPG := Lib.hid (part_good hok gs)
  have HPL := Lib.hid (show (partZ yo z gs).length ≤ 20 from by rw [partZ_len]; have := partI_len yo gs; have := hok.2.2.2.1; have := hok.2.1.2.2.1; omega)
  clear hbx hr hok hg
  go_enter Try.func91, Try.ntmps91
  go_wp2_with fail
  refine (l04Part_any q0 h f l ao yo co a z c ag gs cg w HX2.out HR2.out HO.out HG2.out hlg).mono ?_
  rintro e w3 ⟨⟨va, vc, us, rfl, ho⟩, hb3⟩
  obtain ⟨n, rfl⟩ : ∃ n : Nat, l = (n : Int) := ⟨l.toNat, by omega⟩
  simp only [Int.toNat_natCast] at HPG
  have hb4 := al_b w3 (.cells #[.int .i64 f, .int .i64 (n : Int), .slice va (partI yo gs).length vc] 31)
  have hbx : Boxes (w3.alloc (.cells #[.int .i64 f, .int .i64 (n : Int), .slice va (partI yo gs).length vc] 31)) w3.heap.size 31 #[.int .i64 f, .int .i64 ((n : Nat) : Int), .slice va (partZ yo z gs).length vc] := by
    rw [partZ_len]; exact World.alloc_heap_new w3 _
  have hx4 := (HX2.out.step hb3).step hb4
  have c3 := hx4.s3
  have cl := hx4.lt
  have HBX := Lib.hid hbx
  have HRZ := Lib.hid ((own_rows3 ho).below hb4 (Nat.le_refl _))
  have HB4 := Lib.hid (hb3.trans (hb4.mono hb3.size))
  clear ho hbx hb4 hx4 hb3
  go_wp2_with fail
  refine (l04First_any n _ (by omega) (by omega)).mono ?_
  generalize w3.alloc (.cells #[.int .i64 f, .int .i64 (n : Int), .slice va (partI yo gs).length vc] 31) = w4 at *
  rintro e w5 ⟨⟨v5, rfl, hv5⟩, hb5⟩
  obtain ⟨la, lc, rfl⟩ := rowForm hv5
  have HL5 := Lib.hid (Ints_of_own hv5)
  have HBX5 := Lib.hid (HBX.out.step hb5)
  have HRZ5 := Lib.hid (HRZ.out.below hb5 (Nat.le_refl _))
  have HB5 := Lib.hid (HB4.out.trans (hb5.mono HB4.out.size))
  have hs5 := HB5.out.size
  clear hv5 hb5 c3 cl
  go_wp2_with fail
  refine (l03Combine_any w3.heap.size n vc lc f va la (partZ yo z gs) (fstL n) w5 HBX5.out HRZ5.out HPG.out (by omega) (by have := HPL.out; omega) HL5.out (fstL_len n) (fstL_elems hf2 n)).mono ?_
  rintro e w6 ⟨⟨u, rfl, -⟩, hb6⟩
  have HB6 := Lib.hid (HB5.out.trans (hb6.mono hs5))
  clear hb6
  go_wp2_with fail
  go_ret
  exact ⟨by rw [Int.toNat_natCast]; rfl, HB6.out⟩

set_option maxRecDepth 100000 in
set_option maxHeartbeats 1000000 in
theorem specSo_any (h f l : Int) (ao : Option Addr) (yo : List Int) (co : Nat) (a : Option Addr) (z : List (List Int)) (c : Nat) (ag : Option Addr) (gs : List Int) (cg : Nat) (w : World) (hr : InS w ao yo a z) (hl : LenS yo z) (hg : Ints w ag gs) (hlg : gs.length ≤ 9223372036854775807) :
    Calls Try.prog 40 #[.agg #[.int .i64 h, .slice ao yo.length co, .int .i64 f, .int .i64 l, .slice a z.length c], .slice ag gs.length cg] w fun e w' => e = .returned (.tuple #[.bool (soB h f l yo z gs), .int .i64 (soCode h f l yo z gs)]) ∧ Below w.heap.size w w' := by
  have HL := Lib.hid hl
  have hb1 := al_b w (.cells #[.int .i64 h, .slice ao yo.length co, .int .i64 f, .int .i64 l, .slice a z.length c] 33)
  have HX := Lib.hid (show Boxes (w.alloc (.cells #[.int .i64 h, .slice ao yo.length co, .int .i64 f, .int .i64 l, .slice a z.length c] 33)) w.heap.size 33 #[.int .i64 h, .slice ao yo.length co, .int .i64 f, .int .i64 l, .slice a z.length c] from World.alloc_heap_new w _)
  have HB1 := Lib.hid hb1
  have HR := Lib.hid (hr.step hb1)
  have HG := Lib.hid (hg.step hb1)
  clear hr hl hb1 hg
  by_cases hok : SchOk h yo f l z ∧ IsGrp h gs
  case neg =>
    have hc := oe_grp h f l yo z gs hok
    have HC := Lib.hid (show soB h f l yo z gs = false ∧ soCode h f l yo z gs = grpCode h f l yo z gs from by
      unfold soB soCode
      rw [hc.2.2]
      rcases hc.1 with e | e <;> rw [e] <;> exact ⟨rfl, rfl⟩)
    have t1 : (grpCode h f l yo z gs != 0) = true := by rcases hc.1 with e | e <;> rw [e] <;> rfl
    clear hok hc
    go_enter Try.func40, Try.ntmps40
    go_wp2_with fail
    refine (l04Asked_any w.heap.size h f l ao yo co a z c ag gs cg _ HX.out HR.out HL.out HG.out hlg).mono ?_
    generalize w.alloc (.cells #[.int .i64 h, .slice ao yo.length co, .int .i64 f, .int .i64 l, .slice a z.length c] 33) = w1 at *
    rintro e w2 ⟨rfl, hq⟩
    have hb2 := chain HB1.out (quiet_below hq)
    clear hq
    go_wp2_with fail
    go_ret2
    exact ⟨by rw [HC.out.1, HC.out.2]; rfl, hb2⟩
  have HC := Lib.hid (grp_yes hok.1 hok.2)
  have HO := Lib.hid hok
  have HOL := Lib.hid (show oeCode h f l yo z gs = opCode f l yo z gs from by unfold oeCode; rw [oe_ok hok.1 hok.2])
  clear hok
  go_enter Try.func40, Try.ntmps40
  go_wp2_with fail
  refine (l04Asked_any w.heap.size h f l ao yo co a z c ag gs cg _ HX.out HR.out HL.out HG.out hlg).mono ?_
  generalize w.alloc (.cells #[.int .i64 h, .slice ao yo.length co, .int .i64 f, .int .i64 l, .slice a z.length c] 33) = w1 at *
  rintro e w2 ⟨rfl, hq⟩
  rw [HC.out.1]
  have hbq := quiet_below hq
  have HB2 := Lib.hid (chain HB1.out hbq)
  have HR2 := Lib.hid (HR.out.step hbq)
  have HX2 := Lib.hid (HX.out.step hbq)
  have HG2 := Lib.hid (HG.out.step hbq)
  clear hq hbq HX HG HR HB1
  go_wp2_with fail
  refine (l04Open_any w.heap.size h f l ao yo co a z c ag gs cg w2 HX2.out HR2.out HO.out.1 HG2.out hlg).mono ?_
  rintro e w6 ⟨rfl, hb6⟩
  have HB6 := Lib.hid (chain HB2.out hb6)
  clear hb6
  by_cases hs : SolOk f (partZ yo z gs).length (turned (partZ yo z gs) l.toNat) (fstL l.toNat)
  · have HT := Lib.hid (tell_true hs)
    have HQ := Lib.hid (show soB h f l yo z gs = true ∧ soCode h f l yo z gs = 0 from by unfold soB soCode; rw [HOL.out, opCode, (sol_yes hs).2]; exact ⟨rfl, rfl⟩)
    clear hs
    rw [HT.out]
    go_wp2_with fail
    go_ret2
    exact ⟨by rw [HQ.out.1, HQ.out.2]; rfl, HB6.out⟩
  · have HT := Lib.hid (tell_false hs)
    have HQ := Lib.hid (show soB h f l yo z gs = false ∧ soCode h f l yo z gs = 0 from by unfold soB soCode; rw [HOL.out, opCode, (sol_no hs).2]; exact ⟨rfl, rfl⟩)
    clear hs
    rw [HT.out]
    go_wp2_with fail
    go_ret2
    exact ⟨by rw [HQ.out.1, HQ.out.2]; rfl, HB6.out⟩
end Go.Proofs.Ytekhjoenejgmaaa

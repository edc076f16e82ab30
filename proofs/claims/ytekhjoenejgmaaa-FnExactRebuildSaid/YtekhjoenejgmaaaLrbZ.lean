/- Rbd LrbA Lrb in one text. -/
import Derived.Test.YtekhjoenejgmaaaGos
import Derived.Test.YtekhjoenejgmaaaRd6
import Derived.Test.YtekhjoenejgmaaaDot
import Derived.Deep.RegionHeld3
import Derived.Deep.CutRange
namespace Go.Proofs.Ytekhjoenejgmaaa
open Go.RowKit Go.Deep Go.Joins
set_option linter.unusedVariables false

theorem dot_comm2 (a b : Nat → Int) : ∀ k, dotTo a b k = dotTo b a k
  | 0 => rfl
  | k + 1 => by simp only [dotTo]; rw [dot_comm2 a b k, Int.mul_comm]
/-- THE ELEMENTS THAT MAKE THE FIRST COLUMN'S LIST GIVE THE FIRST ELEMENT OF A SOLUTION. -/
theorem rebuild_eq {p : Int} {n : Nat} {z : List (List Int)} {v : List Int} (hg : GoodM p n z) (h0 : 0 < n) (hn : n ≤ 999) (hz : z.length ≤ 999) (hl : v.length = z.length) (hv : Elems p v) (h1 : SolOk p z.length (turned z n) (fstL n)) (h2 : SolOk p n z v) :
    dotTo (nth (solZ p z.length (turned z n) (fstL n))) (nth v) z.length % p = nth (solZ p n z v) 0 := by
  have hp := hg.prm.1
  have htl : (turned z n).length = n := by unfold turned; rw [tab_len]
  have s1 := sol_sat (turned_good hg (by omega)) hz (by rw [htl, fstL_len]) (fstL_elems hp n) h1
  have s2 := sol_sat hg hn hl hv h2
  have e2 := solZ_elems hg hn hl hv 0 (by rw [solZ_len]; exact h0)
  generalize nth (solZ p z.length (turned z n) (fstL n)) = e at *
  generalize nth (solZ p n z v) = d at *
  rw [htl] at s1
  have a1 : p ∣ dotTo (nth v) e z.length - dotTo (fun r => dotTo (nth (nthL z r)) d n) e z.length := dot_mod z.length fun r hr => dvd_of (Int.dvd_mul_of_dvd_right (b := -1) (s2 r hr)) (by omega)
  rw [dot_comm2 (fun r => dotTo (nth (nthL z r)) d n) e, dot_swap e d (fun r => nth (nthL z r)) n z.length] at a1
  have a2 : p ∣ dotTo (fun j => dotTo (fun r => nth (nthL z r) j) e z.length) d n - dotTo (fun j => if j = 0 then 1 else (0 : Int)) d n := dot_mod n fun j hj => by
    have h := s1 j hj
    have h3 : nth (fstL n) j = if j = 0 then 1 else 0 := by unfold fstL; rw [rowOf_at _ _ hj]; rfl
    rw [h3] at h
    rw [dot_congr (a' := nth (nthL (turned z n) j)) (b' := e) z.length (fun r hr => ⟨by unfold turned; rw [tab_at _ _ _ hj hr], rfl⟩)]
    exact h
  rw [dot_comm2 (fun j => if j = 0 then 1 else (0 : Int)) d, dot_upd d (fun _ => 0) 0 1 n, dot_zero2, if_pos h0] at a2
  rw [dot_comm2 e (nth v)]
  have a3 : p ∣ dotTo (nth v) e z.length - d 0 := dvd_of (Int.dvd_add a1 a2) (by simp only [Int.sub_zero, Int.mul_one]; omega)
  obtain ⟨b0, b1⟩ := e2
  have hm := Int.emod_emod_of_dvd (dotTo (nth v) e z.length) (Int.dvd_refl p)
  have h3 := Int.emod_eq_emod_iff_emod_sub_eq_zero.2 (Int.emod_eq_zero_of_dvd a3)
  rw [h3, Int.emod_eq_of_lt b0 b1]

/-- What a matrix and shares give: b as for bad ones, e where the group does not open, d where the shares are not consistent, else o. -/
noncomputable def rbSel {α : Type} (f : Int) (n : Nat) (Z : List (List Int)) (hs : List Int) (b e d o : α) : α := if tell (SolOk f Z.length (turned Z n) (fstL n)) = true then (if tell (SolOk f n Z hs) = true then o else d) else e
noncomputable def rbV (h f l : Int) (yo : List Int) (z : List (List Int)) (gs hs : List Int) : Int := if wiCode h f l yo z gs hs = 0 then rbSel f l.toNat (partZ yo z gs) hs 0 0 0 (nth (solZ f l.toNat (partZ yo z gs) hs) 0) else 0
noncomputable def rbC (h f l : Int) (yo : List Int) (z : List (List Int)) (gs hs : List Int) : Int := if wiCode h f l yo z gs hs = 0 then rbSel f l.toNat (partZ yo z gs) hs 0 6 4 0 else wiCode h f l yo z gs hs

set_option maxRecDepth 100000 in
set_option maxHeartbeats 1000000 in
theorem implRbd_any (h f l : Int) (ao : Option Addr) (yo : List Int) (co : Nat) (a : Option Addr) (z : List (List Int)) (c : Nat) (ag : Option Addr) (gs : List Int) (cg : Nat) (ah : Option Addr) (hs : List Int) (ch : Nat) (w : World) (hr : InS w ao yo a z) (hl : LenS yo z) (hg : Ints w ag gs) (hlg : gs.length ≤ 9223372036854775807) (hh : Ints w ah hs) (hlh : hs.length ≤ 9223372036854775807) :
    Calls Try.prog 45 #[.agg #[.int .i64 h, .slice ao yo.length co, .int .i64 f, .int .i64 l, .slice a z.length c], .slice ag gs.length cg, .slice ah hs.length ch] w fun e w' => e = .returned (.tuple #[.int .i64 (rbV h f l yo z gs hs), .int .i64 (rbC h f l yo z gs hs)]) ∧ Below w.heap.size w w' := by
  have HL := Lib.hid hl
  have hb1 := al_b w (.cells #[.int .i64 h, .slice ao yo.length co, .int .i64 f, .int .i64 l, .slice a z.length c] 33)
  have HX := Lib.hid (show Boxes (w.alloc (.cells #[.int .i64 h, .slice ao yo.length co, .int .i64 f, .int .i64 l, .slice a z.length c] 33)) w.heap.size 33 #[.int .i64 h, .slice ao yo.length co, .int .i64 f, .int .i64 l, .slice a z.length c] from World.alloc_heap_new w _)
  have HB1 := Lib.hid hb1
  have HR := Lib.hid (hr.step hb1)
  have HG := Lib.hid (hg.step hb1)
  have HH := Lib.hid (hh.step hb1)
  clear hr hl hb1 hg hh
  by_cases hok : (SchOk h yo f l z ∧ IsGrp h gs) ∧ RowOk f ((partI yo gs).length : Int) hs
  case neg =>
    have hc : (wiCode h f l yo z gs hs = 1 ∨ wiCode h f l yo z gs hs = 2) := by
      by_cases h1 : SchOk h yo f l z ∧ IsGrp h gs
      · exact .inr (wi_row h1 (hs := hs) fun q => hok ⟨h1, q⟩).1
      · have := wi_grp (hs := hs) h1
        rw [this.2.1]
        exact this.1
    have HC := Lib.hid (show rbV h f l yo z gs hs = 0 ∧ rbC h f l yo z gs hs = wiCode h f l yo z gs hs from by
      unfold rbV rbC rbSel
      have h0 : ¬ wiCode h f l yo z gs hs = 0 := by rcases hc with e | e <;> omega
      rw [if_neg h0, if_neg h0]
      exact ⟨rfl, rfl⟩)
    obtain ⟨y, hy⟩ : ∃ y, wiCode h f l yo z gs hs = y := ⟨_, rfl⟩
    have HY := Lib.hid hy
    rw [hy] at hc HC
    have t1 : (y != 0) = true := by rcases hc with e | e <;> rw [e] <;> rfl
    have t2 : ¬ y = 0 := by rcases hc with e | e <;> omega
    clear hok hc hy
    go_enter Try.func45, Try.ntmps45
    go_wp2_with fail
    refine (gridOfShares_any h f l ao yo co a z c ag gs cg ah hs ch _ HR.out HL.out HG.out hlg HH.out hlh).mono ?_
    rw [HY.out]
    rintro e w2 ⟨⟨xa, xm, xc, xf, xl, rfl, -⟩, hb2⟩
    have HB2 := Lib.hid (chain HB1.out hb2)
    clear hb2
    go_wp2_with fail
    go_ret2
    exact ⟨by rw [HC.out.1, HC.out.2]; rfl, HB2.out.alloc HB2.out.size _⟩
  have HW := Lib.hid (wi_ok hok.1 hok.2).1
  have HO := Lib.hid hok
  have hl1 : 1 ≤ l := hok.1.1.2.2.1
  have hl12 : l ≤ 12 := hok.1.1.2.1.2.1.2
  have hf2 : 2 ≤ f := hok.1.1.2.1.1.1
  have hf31 : f ≤ 31 := hok.1.1.2.1.1.2.1
  have HPG := Lib.hid (part_good hok.1.1 gs)
  have HPL := Lib.hid (show (partZ yo z gs).length ≤ 20 from by rw [partZ_len]; have := partI_len yo gs; have := hok.1.1.2.2.2.1; have := hok.1.1.2.1.2.2.1; omega)
  have HVL := Lib.hid (show hs.length = (partZ yo z gs).length from by rw [partZ_len]; have := hok.2.1; omega)
  have HRB := Lib.hid (show rbV h f l yo z gs hs = rbSel f l.toNat (partZ yo z gs) hs 0 0 0 (nth (solZ f l.toNat (partZ yo z gs) hs) 0) ∧ rbC h f l yo z gs hs = rbSel f l.toNat (partZ yo z gs) hs 0 6 4 0 from by
    unfold rbV rbC
    rw [if_pos (wi_ok hok.1 hok.2).1, if_pos (wi_ok hok.1 hok.2).1]
    exact ⟨rfl, rfl⟩)
  clear hok
  have HVO := Lib.hid (sn_yes (n := l.toNat) (show ValOk f (partZ yo z gs) hs from ⟨HVL.out, HO.out.2.2⟩))
  go_enter Try.func45, Try.ntmps45
  go_wp2_with fail
  refine (gridOfShares_any h f l ao yo co a z c ag gs cg ah hs ch _ HR.out HL.out HG.out hlg HH.out hlh).mono ?_
  generalize w.alloc (.cells #[.int .i64 h, .slice ao yo.length co, .int .i64 f, .int .i64 l, .slice a z.length c] 33) = w1 at *
  rw [HW.out]
  rintro e w2 ⟨⟨xa, xm, xc, xf, xl, rfl, hk⟩, hb2⟩
  obtain ⟨rfl, rfl, rfl, hgr⟩ := hk HO.out
  obtain ⟨n, rfl⟩ : ∃ n : Nat, xl = (n : Int) := ⟨xl.toNat, by omega⟩
  simp only [Int.toNat_natCast] at HPG HVO HRB
  have hb3 := al_b w2 (.cells #[.slice xa (partZ yo z gs).length xc, .int .i64 xf, .int .i64 (n : Int)] 78)
  have HX3 := Lib.hid (show Boxes (w2.alloc (.cells #[.slice xa (partZ yo z gs).length xc, .int .i64 xf, .int .i64 (n : Int)] 78)) w2.heap.size 78 #[.slice xa (partZ yo z gs).length xc, .int .i64 xf, .int .i64 (n : Int)] from World.alloc_heap_new w2 _)
  have HG3 := Lib.hid (hgr.step hb3)
  have HH3 := Lib.hid ((HH.out.step hb2).step hb3)
  have HB3 := Lib.hid ((chain HB1.out hb2).trans (hb3.mono (chain HB1.out hb2).size))
  have m0 := HX3.out.m0
  have m1 := HX3.out.m1
  have m2 := HX3.out.m2
  have ml := HX3.out.lt
  clear hk hgr hb2 hb3 HX HR HG HH HB1
  go_upto_region 4 with fail
  generalize w2.alloc (.cells #[.slice xa (partZ yo z gs).length xc, .int .i64 xf, .int .i64 (n : Int)] 78) = w3 at *
  go_wp2_with fail
  refine (secretElements_any xf n xa (partZ yo z gs).length xc (partZ yo z gs) w3 rfl HPG.out (by omega) (by omega) (by have := HPL.out; omega) HG3.out).mono ?_
  rintro e w4 ⟨⟨u, rfl, -⟩, hb4⟩
  have HB4 := Lib.hid (chain HB3.out hb4)
  have HX4 := Lib.hid (HX3.out.step hb4)
  have HG4 := Lib.hid (HG3.out.step hb4)
  have HH4 := Lib.hid (HH3.out.step hb4)
  clear hb4 m0 m1 m2 ml HX3 HG3 HH3
  by_cases h1 : SolOk xf (partZ yo z gs).length (turned (partZ yo z gs) n) (fstL n)
  case neg =>
    have HT := Lib.hid (sol_no h1).2
    have HQ := Lib.hid (show rbV h xf n yo z gs hs = 0 ∧ rbC h xf n yo z gs hs = 6 from by rw [HRB.out.1, HRB.out.2]; unfold rbSel; rw [tell_false h1]; exact ⟨rfl, rfl⟩)
    clear h1
    rw [HT.out]
    go_wp2_with fail
    go_ret2
    exact ⟨by rw [HQ.out.1, HQ.out.2]; rfl, HB4.out⟩
  have HT := Lib.hid (sol_yes h1).2
  have H1 := Lib.hid (tell_true h1)
  clear h1
  rw [HT.out]
  have m0 := HX4.out.m0
  have m1 := HX4.out.m1
  have m2 := HX4.out.m2
  have ml := HX4.out.lt
  go_wp2_with fail
  refine (solution_any xf n xa xc (partZ yo z gs) ah hs ch w4 HPG.out (by omega) HG4.out HH4.out hlh).mono ?_
  rintro e w5 ⟨⟨u5, rfl, hu⟩, hb5⟩
  have HB5 := Lib.hid (chain HB4.out hb5)
  clear hb5 m0 m1 m2 ml
  rw [HVO.out.1] at hu
  rw [HVO.out.2]
  by_cases h2 : SolOk xf n (partZ yo z gs) hs
  case neg =>
    have HT2 := Lib.hid (sol_no h2).2
    have HQ := Lib.hid (show rbV h xf n yo z gs hs = 0 ∧ rbC h xf n yo z gs hs = 4 from by rw [HRB.out.1, HRB.out.2]; unfold rbSel; rw [H1.out, tell_false h2]; exact ⟨rfl, rfl⟩)
    clear h2 hu
    rw [HT2.out]
    go_wp2_with fail
    go_ret2
    exact ⟨by rw [HQ.out.1, HQ.out.2]; rfl, HB5.out⟩
  have HT2 := Lib.hid (sol_yes h2).2
  have HQ := Lib.hid (show rbV h xf n yo z gs hs = nth (solZ xf n (partZ yo z gs) hs) 0 ∧ rbC h xf n yo z gs hs = 0 from by rw [HRB.out.1, HRB.out.2]; unfold rbSel; rw [H1.out, tell_true h2]; exact ⟨rfl, rfl⟩)
  rw [(sol_yes h2).1] at hu
  clear h2
  rw [HT2.out]
  have hn0 : (0 : Int) < (n : Int) := by omega
  obtain ⟨g, cap, rfl, -, hgl⟩ := World.ownsRow.form (show w5.ownsRow w4.heap.size 2 1 u5 n (vals (solZ xf n (partZ yo z gs) hs)) from by have h := hu; unfold OwnI at h; rw [solZ_len] at h; exact h) (by omega)
  have hd0 := World.ownsRow.cellAt (show w5.ownsRow w4.heap.size 2 1 (.slice (some ⟨g, 0, none⟩) n cap) n (vals (solZ xf n (partZ yo z gs) hs)) from by have h := hu; unfold OwnI at h; rw [solZ_len] at h; exact h) 0 (by omega)
  rw [vals_at _ (by rw [solZ_len]; omega)] at hd0
  obtain ⟨y, hy⟩ : ∃ y, nth (solZ xf n (partZ yo z gs) hs) 0 = y := ⟨_, rfl⟩
  rw [hy] at hd0 HQ
  clear hu hy
  go_wp2_with fail
  go_ret2
  exact ⟨by rw [HQ.out.1, HQ.out.2]; rfl, HB5.out⟩

set_option maxRecDepth 100000 in
set_option maxHeartbeats 1000000 in
theorem specRbd_any (h f l : Int) (ao : Option Addr) (yo : List Int) (co : Nat) (a : Option Addr) (z : List (List Int)) (c : Nat) (ag : Option Addr) (gs : List Int) (cg : Nat) (ah : Option Addr) (hs : List Int) (ch : Nat) (w : World) (hr : InS w ao yo a z) (hl : LenS yo z) (hg : Ints w ag gs) (hlg : gs.length ≤ 9223372036854775807) (hh : Ints w ah hs) (hlh : hs.length ≤ 9223372036854775807) :
    Calls Try.prog 44 #[.agg #[.int .i64 h, .slice ao yo.length co, .int .i64 f, .int .i64 l, .slice a z.length c], .slice ag gs.length cg, .slice ah hs.length ch] w fun e w' => e = .returned (.tuple #[.int .i64 (rbV h f l yo z gs hs), .int .i64 (rbC h f l yo z gs hs)]) ∧ Below w.heap.size w w' := by
  have HL := Lib.hid hl
  have hb1 := al_b w (.cells #[.int .i64 h, .slice ao yo.length co, .int .i64 f, .int .i64 l, .slice a z.length c] 33)
  have HX := Lib.hid (show Boxes (w.alloc (.cells #[.int .i64 h, .slice ao yo.length co, .int .i64 f, .int .i64 l, .slice a z.length c] 33)) w.heap.size 33 #[.int .i64 h, .slice ao yo.length co, .int .i64 f, .int .i64 l, .slice a z.length c] from World.alloc_heap_new w _)
  have HB1 := Lib.hid hb1
  have HR := Lib.hid (hr.step hb1)
  have HG := Lib.hid (hg.step hb1)
  have HH := Lib.hid (hh.step hb1)
  clear hr hl hb1 hg hh
  by_cases hok : (SchOk h yo f l z ∧ IsGrp h gs) ∧ RowOk f ((partI yo gs).length : Int) hs
  case neg =>
    have hc : (wiCode h f l yo z gs hs = 1 ∨ wiCode h f l yo z gs hs = 2) := by
      by_cases h1 : SchOk h yo f l z ∧ IsGrp h gs
      · exact .inr (wi_row h1 (hs := hs) fun q => hok ⟨h1, q⟩).1
      · have := wi_grp (hs := hs) h1
        rw [this.2.1]
        exact this.1
    have HC := Lib.hid (show rbV h f l yo z gs hs = 0 ∧ rbC h f l yo z gs hs = wiCode h f l yo z gs hs from by
      unfold rbV rbC rbSel
      have h0 : ¬ wiCode h f l yo z gs hs = 0 := by rcases hc with e | e <;> omega
      rw [if_neg h0, if_neg h0]
      exact ⟨rfl, rfl⟩)
    obtain ⟨y, hy⟩ : ∃ y, wiCode h f l yo z gs hs = y := ⟨_, rfl⟩
    have HY := Lib.hid hy
    rw [hy] at hc HC
    have t1 : (y != 0) = true := by rcases hc with e | e <;> rw [e] <;> rfl
    have t2 : ¬ y = 0 := by rcases hc with e | e <;> omega
    clear hok hc hy
    go_enter Try.func44, Try.ntmps44
    go_wp2_with fail
    refine (l04With_any w.heap.size h f l ao yo co a z c ag gs cg ah hs ch _ HX.out HR.out HL.out HG.out hlg HH.out hlh).mono ?_
    rw [HY.out]
    rintro e w2 ⟨rfl, hb2⟩
    have HB2 := Lib.hid (chain HB1.out hb2)
    clear hb2
    go_wp2_with fail
    go_ret2
    exact ⟨by rw [HC.out.1, HC.out.2]; rfl, HB2.out⟩
  have HW := Lib.hid (wi_ok hok.1 hok.2).1
  have HO := Lib.hid hok
  have hl1 : 1 ≤ l := hok.1.1.2.2.1
  have hl12 : l ≤ 12 := hok.1.1.2.1.2.1.2
  have hf2 : 2 ≤ f := hok.1.1.2.1.1.1
  have hf31 : f ≤ 31 := hok.1.1.2.1.1.2.1
  have HPG := Lib.hid (part_good hok.1.1 gs)
  have HPL := Lib.hid (show (partZ yo z gs).length ≤ 20 from by rw [partZ_len]; have := partI_len yo gs; have := hok.1.1.2.2.2.1; have := hok.1.1.2.1.2.2.1; omega)
  have HVL := Lib.hid (show hs.length = (partZ yo z gs).length from by rw [partZ_len]; have := hok.2.1; omega)
  have HRB := Lib.hid (show rbV h f l yo z gs hs = rbSel f l.toNat (partZ yo z gs) hs 0 0 0 (nth (solZ f l.toNat (partZ yo z gs) hs) 0) ∧ rbC h f l yo z gs hs = rbSel f l.toNat (partZ yo z gs) hs 0 6 4 0 from by
    unfold rbV rbC
    rw [if_pos (wi_ok hok.1 hok.2).1, if_pos (wi_ok hok.1 hok.2).1]
    exact ⟨rfl, rfl⟩)
  clear hok
  go_enter Try.func44, Try.ntmps44
  go_wp2_with fail
  refine (l04With_any w.heap.size h f l ao yo co a z c ag gs cg ah hs ch _ HX.out HR.out HL.out HG.out hlg HH.out hlh).mono ?_
  generalize w.alloc (.cells #[.int .i64 h, .slice ao yo.length co, .int .i64 f, .int .i64 l, .slice a z.length c] 33) = w1 at *
  rw [HW.out]
  rintro e w2 ⟨rfl, hb2⟩
  have HB2 := Lib.hid (chain HB1.out hb2)
  have HR2 := Lib.hid (HR.out.step hb2)
  have HX2 := Lib.hid (HX.out.step hb2)
  have HG2 := Lib.hid (HG.out.step hb2)
  have HH2 := Lib.hid (HH.out.step hb2)
  clear hb2 HX HG HR HB1 HH
  go_wp2_with fail
  refine (l04Part_any w.heap.size h f l ao yo co a z c ag gs cg w2 HX2.out HR2.out HO.out.1.1 HG2.out hlg).mono ?_
  rintro e w3 ⟨⟨va, vc, us, rfl, ho⟩, hb3⟩
  obtain ⟨n, rfl⟩ : ∃ n : Nat, l = (n : Int) := ⟨l.toNat, by omega⟩
  simp only [Int.toNat_natCast] at HPG HRB
  have hb4 := al_b w3 (.cells #[.int .i64 f, .int .i64 (n : Int), .slice va (partI yo gs).length vc] 31)
  have hbx : Boxes (w3.alloc (.cells #[.int .i64 f, .int .i64 (n : Int), .slice va (partI yo gs).length vc] 31)) w3.heap.size 31 #[.int .i64 f, .int .i64 ((n : Nat) : Int), .slice va (partZ yo z gs).length vc] := by
    rw [partZ_len]; exact World.alloc_heap_new w3 _
  have hx4 := (HX2.out.step hb3).step hb4
  have HX4 := Lib.hid hx4
  have c3 := hx4.s3
  have cl := hx4.lt
  have HBX := Lib.hid hbx
  have HRZ := Lib.hid ((own_rows3 ho).below hb4 (Nat.le_refl _))
  have HH4 := Lib.hid ((HH2.out.step hb3).step hb4)
  have HB4 := Lib.hid ((chain HB2.out hb3).trans (hb4.mono (chain HB2.out hb3).size))
  clear ho hbx hb4 hb3 hx4 HX2
  go_wp2_with fail
  refine (l04First_any n _ (by omega) (by omega)).mono ?_
  generalize w3.alloc (.cells #[.int .i64 f, .int .i64 (n : Int), .slice va (partI yo gs).length vc] 31) = w4 at *
  rintro e w5 ⟨⟨v5, rfl, hv5⟩, hb5⟩
  obtain ⟨la, lc, rfl⟩ := rowForm hv5
  have HL5 := Lib.hid (Ints_of_own hv5)
  have HX5 := Lib.hid (HX4.out.step hb5)
  have HBX5 := Lib.hid (HBX.out.step hb5)
  have HRZ5 := Lib.hid (HRZ.out.below hb5 (Nat.le_refl _))
  have HH5 := Lib.hid (HH4.out.step hb5)
  have HB5 := Lib.hid (HB4.out.trans (hb5.mono HB4.out.size))
  have hs5 := HB5.out.size
  clear hv5 hb5 c3 cl
  go_wp2_with fail
  refine (l03Combine_any w3.heap.size n vc lc f va la (partZ yo z gs) (fstL n) w5 HBX5.out HRZ5.out HPG.out (by omega) (by have := HPL.out; omega) HL5.out (fstL_len n) (fstL_elems hf2 n)).mono ?_
  rintro e w6 ⟨⟨u, rfl, hu⟩, hb6⟩
  have HB6 := Lib.hid (HB5.out.trans (hb6.mono hs5))
  have HX6 := Lib.hid (HX5.out.step hb6)
  have HBX6 := Lib.hid (HBX5.out.step hb6)
  have HRZ6 := Lib.hid (HRZ5.out.below hb6 (Nat.le_refl _))
  have HH6 := Lib.hid (HH5.out.step hb6)
  have hs6 := HB6.out.size
  clear hb6
  by_cases h1 : SolOk f (partZ yo z gs).length (turned (partZ yo z gs) n) (fstL n)
  case neg =>
    have HT := Lib.hid (tell_false h1)
    have HQ := Lib.hid (show rbV h f n yo z gs hs = 0 ∧ rbC h f n yo z gs hs = 6 from by rw [HRB.out.1, HRB.out.2]; unfold rbSel; rw [tell_false h1]; exact ⟨rfl, rfl⟩)
    clear h1 hu
    rw [HT.out]
    go_wp2_with fail
    go_ret2
    exact ⟨by rw [HQ.out.1, HQ.out.2]; rfl, HB6.out⟩
  have HT := Lib.hid (tell_true h1)
  have H1 := Lib.hid h1
  rw [(sol_yes h1).1] at hu
  obtain ⟨ua, uc, rfl⟩ := rowForm hu
  have HU := Lib.hid (Ints_of_own hu)
  clear h1 hu
  rw [HT.out]
  go_wp2_with fail
  refine (l03Solve_any w3.heap.size n vc ch f va ah (partZ yo z gs) hs _ HBX6.out HRZ6.out HPG.out (by omega) HH6.out HVL.out HO.out.2.2).mono ?_
  rintro e w7 ⟨⟨u7, rfl, -⟩, hb7⟩
  have HB7 := Lib.hid (HB6.out.trans (hb7.mono hs6))
  have HX7 := Lib.hid (HX6.out.step hb7)
  have HU7 := Lib.hid (HU.out.step hb7)
  have HH7 := Lib.hid (HH6.out.step hb7)
  clear hb7
  by_cases h2 : SolOk f n (partZ yo z gs) hs
  case neg =>
    have HT2 := Lib.hid (tell_false h2)
    have HQ := Lib.hid (show rbV h f n yo z gs hs = 0 ∧ rbC h f n yo z gs hs = 4 from by rw [HRB.out.1, HRB.out.2]; unfold rbSel; rw [HT.out, tell_false h2]; exact ⟨rfl, rfl⟩)
    clear h2
    rw [HT2.out]
    go_wp2_with fail
    go_ret2
    exact ⟨by rw [HQ.out.1, HQ.out.2]; rfl, HB7.out⟩
  have HT2 := Lib.hid (tell_true h2)
  have HQ := Lib.hid (show rbV h f n yo z gs hs = nth (solZ f n (partZ yo z gs) hs) 0 ∧ rbC h f n yo z gs hs = 0 from by rw [HRB.out.1, HRB.out.2]; unfold rbSel; rw [HT.out, tell_true h2]; exact ⟨rfl, rfl⟩)
  have HEQ := Lib.hid (rebuild_eq HPG.out (by omega) (by omega) (by have := HPL.out; omega) HVL.out HO.out.2.2 H1.out h2)
  clear h2
  rw [HT2.out]
  have c2 := HX7.out.s2
  have cl := HX7.out.lt
  go_wp2_with fail
  refine (l03Dot_any f ua ah (solZ f (partZ yo z gs).length (turned (partZ yo z gs) n) (fstL n)) hs uc ch w7 hf2 hf31 HU7.out HH7.out (by rw [solZ_len]; exact HVL.out.symm) (by rw [solZ_len]; have := HPL.out; omega) (solZ_elems (turned_good HPG.out (by have := HPL.out; omega)) (by have := HPL.out; omega) (by unfold turned; rw [tab_len, fstL_len]) (fstL_elems hf2 n)) HO.out.2.2).mono ?_
  rw [solZ_len, HEQ.out]
  rintro e w8 ⟨rfl, hq8⟩
  have HB8 := Lib.hid (chain HB7.out (quiet_below hq8))
  clear hq8 c2 cl
  go_wp2_with fail
  go_ret2
  exact ⟨by rw [HQ.out.1, HQ.out.2]; rfl, HB8.out⟩
end Go.Proofs.Ytekhjoenejgmaaa

namespace Go.Proofs.Ytekhjoenejgmaaa
open Go.ChangeShapes Go.WideShapes Go.ChangeAt Go.RowKit Go.Deep
set_option linter.unusedVariables false
namespace Rbd

/-- What is carried over the second half. -/
structure Carry (v4 : World) (g0 : Nat) (yo0 : List Int) (z0 : List (List Int)) (px0 : Nat) (h0 : Int) (f0 : Int) (l0 : Int) (g1 : Nat) (z1 : List Int) (g2 : Nat) (z2 : List Int) (W : World) : Prop where
  e : Below v4.heap.size v4 W
  x0 : OwnS W g0 yo0 z0
  b0 : Boxes W px0 33 #[.int .i64 h0, .slice (some ⟨g0, 0, none⟩) yo0.length yo0.length, .int .i64 f0, .int .i64 l0, .slice (some ⟨g0 + 4, 0, none⟩) z0.length z0.length]
  x1 : OwnI W g1 (.slice (some ⟨g1, 0, none⟩) z1.length z1.length) z1
  x2 : OwnI W g2 (.slice (some ⟨g2, 0, none⟩) z2.length z2.length) z2

theorem Carry.step {v4 : World} {g0 : Nat} {yo0 : List Int} {z0 : List (List Int)} {px0 : Nat} {h0 : Int} {f0 : Int} {l0 : Int} {g1 : Nat} {z1 : List Int} {g2 : Nat} {z2 : List Int} {W W' : World} (hb : Below W.heap.size W W') (k : Carry v4 g0 yo0 z0 px0 h0 f0 l0 g1 z1 g2 z2 W) : Carry v4 g0 yo0 z0 px0 h0 f0 l0 g1 z1 g2 z2 W' := ⟨chain k.e hb, k.x0.step hb, k.b0.step hb, k.x1.step hb, k.x2.step hb⟩
theorem keep10 {w w' : World} {p1 p2 p3 p4 p5 p6 p7 p8 p9 p10 : Addr} {u1 u2 u3 u4 u5 u6 u7 u8 u9 u10 : Value} {C : World → Prop} (hb : Below w.heap.size w w') (hC : C w → C w') (h : w.cell? p1 = some u1 ∧ w.cell? p2 = some u2 ∧ w.cell? p3 = some u3 ∧ w.cell? p4 = some u4 ∧ w.cell? p5 = some u5 ∧ w.cell? p6 = some u6 ∧ w.cell? p7 = some u7 ∧ w.cell? p8 = some u8 ∧ w.cell? p9 = some u9 ∧ w.cell? p10 = some u10 ∧ C w) : w'.cell? p1 = some u1 ∧ w'.cell? p2 = some u2 ∧ w'.cell? p3 = some u3 ∧ w'.cell? p4 = some u4 ∧ w'.cell? p5 = some u5 ∧ w'.cell? p6 = some u6 ∧ w'.cell? p7 = some u7 ∧ w'.cell? p8 = some u8 ∧ w'.cell? p9 = some u9 ∧ w'.cell? p10 = some u10 ∧ C w' :=
  ⟨cell_step hb h.1, cell_step hb h.2.1, cell_step hb h.2.2.1, cell_step hb h.2.2.2.1, cell_step hb h.2.2.2.2.1, cell_step hb h.2.2.2.2.2.1, cell_step hb h.2.2.2.2.2.2.1, cell_step hb h.2.2.2.2.2.2.2.1, cell_step hb h.2.2.2.2.2.2.2.2.1, cell_step hb h.2.2.2.2.2.2.2.2.2.1, hC h.2.2.2.2.2.2.2.2.2.2⟩

set_option maxHeartbeats 4000000 in
set_option maxRecDepth 100000 in
theorem law_of (h0 f0 l0 : Int) (ao0 : Option Addr) (yo0 : List Int) (co0 : Nat) (a0 : Option Addr) (z0 : List (List Int)) (c0 : Nat) (a1 : Option Addr) (z1 : List Int) (c1 : Nat) (a2 : Option Addr) (z2 : List Int) (c2 : Nat) (rn : Int) (rc : Int) (w : World) (hr0 : InS w ao0 yo0 a0 z0) (hl0 : LenS yo0 z0) (wfh0 : (Lit.int .i64 h0).wf = true) (wff0 : (Lit.int .i64 f0).wf = true) (wfl0 : (Lit.int .i64 l0).wf = true) (hr1 : Ints w a1 z1) (hl1 : z1.length ≤ 9223372036854775807) (hr2 : Ints w a2 z2) (hl2 : z2.length ≤ 9223372036854775807)
    
    (hS : ∀ (bo0 : Option Addr) (eo0 : Nat) (b0 : Option Addr) (d0 : Nat) (b1 : Option Addr) (d1 : Nat) (b2 : Option Addr) (d2 : Nat) (W : World), InS W bo0 yo0 b0 z0 → SmS yo0 z0 → Ints W b1 z1 → z1.length ≤ 1048576 → Ints W b2 z2 → z2.length ≤ 1048576 → Calls Try.prog 44 #[.agg #[.int .i64 h0, .slice bo0 yo0.length eo0, .int .i64 f0, .int .i64 l0, .slice b0 z0.length d0], .slice b1 z1.length d1, .slice b2 z2.length d2] W (fun e w' => e = .returned (.tuple #[.int .i64 rn, .int .i64 rc]) ∧ Below W.heap.size W w'))
    (hI : ∀ (bo0 : Option Addr) (eo0 : Nat) (b0 : Option Addr) (d0 : Nat) (b1 : Option Addr) (d1 : Nat) (b2 : Option Addr) (d2 : Nat) (W : World), InS W bo0 yo0 b0 z0 → SmS yo0 z0 → Ints W b1 z1 → z1.length ≤ 1048576 → Ints W b2 z2 → z2.length ≤ 1048576 → Calls Try.prog 45 #[.agg #[.int .i64 h0, .slice bo0 yo0.length eo0, .int .i64 f0, .int .i64 l0, .slice b0 z0.length d0], .slice b1 z1.length d1, .slice b2 z2.length d2] W (fun e w' => e = .returned (.tuple #[.int .i64 rn, .int .i64 rc]) ∧ Below W.heap.size W w'))
     :
    Calls Try.prog 11 #[.agg #[.int .i64 h0, .slice ao0 yo0.length co0, .int .i64 f0, .int .i64 l0, .slice a0 z0.length c0], .slice a1 z1.length c1, .slice a2 z2.length c2] w fun e w' => e = .returned (.bool true) ∧ Below w.heap.size w w' := by
  have HSP := Lib.hid hS
  have HIM := Lib.hid hI
  clear hS hI
  by_cases hbig1 : 1048576 < z1.length
  · have t1 : (1048576 : Int) < (z1.length : Int) := by omega
    go_enter Try.func11, Try.ntmps11
    go_wp2_with fail
    go_ret
    exact ⟨rfl, by first | exact Below.refl _ _ | go_grown⟩
  have hs1 : z1.length ≤ 1048576 := by omega
  clear hbig1
  by_cases hbig2 : 1048576 < z2.length
  · have t1 : (1048576 : Int) < (z2.length : Int) := by omega
    go_enter Try.func11, Try.ntmps11
    go_wp2_with fail
    go_ret
    exact ⟨rfl, by first | exact Below.refl _ _ | go_grown⟩
  have hs2 : z2.length ≤ 1048576 := by omega
  clear hbig2
  have D := Lib.hid (Below.refl w.heap.size w)
  have R0 := Lib.hid hr0
  clear hr0
  have L0 := Lib.hid hl0
  clear hl0
  have R1 := Lib.hid hr1
  clear hr1
  have R2 := Lib.hid hr2
  clear hr2
  go_enter Try.func11, Try.ntmps11
  go_wp2_with fail
  have hb := (Below.refl (w).heap.size (w)).alloc (Nat.le_refl _) (.cells #[.int .i64 h0, .slice ao0 yo0.length co0, .int .i64 f0, .int .i64 l0, .slice a0 z0.length c0] 27)
  have ha0 : Boxes ((w).alloc (.cells #[.int .i64 h0, .slice ao0 yo0.length co0, .int .i64 f0, .int .i64 l0, .slice a0 z0.length c0] 27)) (w).heap.size 27 #[.int .i64 h0, .slice ao0 yo0.length co0, .int .i64 f0, .int .i64 l0, .slice a0 z0.length c0] := World.alloc_heap_new _ _
  replace D := Lib.hid (chain D.out hb)
  replace R0 := Lib.hid (R0.out.step hb)
  replace R1 := Lib.hid (R1.out.step hb)
  replace R2 := Lib.hid (R2.out.step hb)
  clear hb
  skip
  generalize hv1 : (w).alloc (.cells #[.int .i64 h0, .slice ao0 yo0.length co0, .int .i64 f0, .int .i64 l0, .slice a0 z0.length c0] 27) = v1 at *
  have B0 := Lib.hid ha0
  clear ha0
  clear hv1
  refine (szScheme2_any h0 f0 l0 ao0 yo0 co0 a0 z0 c0 1048576 _ R0.out (by omega) (by omega) L0.out).mono ?_
  rintro e w1 ⟨⟨u0, hu0, rfl⟩, hb⟩
  replace D := Lib.hid (chain D.out hb)
  replace R0 := Lib.hid (R0.out.step hb)
  replace R1 := Lib.hid (R1.out.step hb)
  replace R2 := Lib.hid (R2.out.step hb)
  replace B0 := Lib.hid (B0.out.step hb)
  clear hb
  rcases hu0 with rfl | ⟨hu00, hut0, hu01, hsm0⟩
  · go_wp2_with fail
    go_ret
    exact ⟨rfl, D.out⟩
  have S0 := Lib.hid hsm0
  have hz0 : z0.length ≤ 1048576 := hsm0.r.1
  clear hsm0
  have TT0 := Lib.hid hut0
  clear hut0
  have B0c0 := (B0.out).s0
  have B0c1 := (B0.out).s1
  have B0c2 := (B0.out).s2
  have B0c3 := (B0.out).s3
  have B0c4 := (B0.out).s4
  have B0lt := (B0.out).lt
  go_wp2_with fail
  clear B0c0 B0c1 B0c2 B0c3 B0c4 B0lt
  refine (toScheme_any h0 f0 l0 ao0 yo0 co0 a0 z0 c0 _ R0.out S0.out).mono ?_
  rintro e w2 ⟨rfl, hz, hrow, hb⟩
  replace D := Lib.hid (chain D.out hb)
  replace R0 := Lib.hid (R0.out.step hb)
  replace R1 := Lib.hid (R1.out.step hb)
  replace R2 := Lib.hid (R2.out.step hb)
  replace B0 := Lib.hid (B0.out.step hb)
  have M0 := Lib.hid (hrow.rows)
  clear hb hrow hz
  have B0c0 := (B0.out).s0
  have B0c1 := (B0.out).s1
  have B0c2 := (B0.out).s2
  have B0c3 := (B0.out).s3
  have B0c4 := (B0.out).s4
  have B0lt := (B0.out).lt
  go_wp2_with fail
  clear B0c0 B0c1 B0c2 B0c3 B0c4 B0lt
  refine (toInt64S_any a1 z1 c1 _ R1.out hs1).mono ?_
  rintro e w3 ⟨rfl, hz, hrow, hb⟩
  replace D := Lib.hid (chain D.out hb)
  replace R0 := Lib.hid (R0.out.step hb)
  replace R1 := Lib.hid (R1.out.step hb)
  replace R2 := Lib.hid (R2.out.step hb)
  replace B0 := Lib.hid (B0.out.step hb)
  replace M0 := Lib.hid (M0.out.step hb)
  have M1 := Lib.hid (Ints.of_row hrow)
  clear hb hrow hz
  have B0c0 := (B0.out).s0
  have B0c1 := (B0.out).s1
  have B0c2 := (B0.out).s2
  have B0c3 := (B0.out).s3
  have B0c4 := (B0.out).s4
  have B0lt := (B0.out).lt
  go_wp2_with fail
  clear B0c0 B0c1 B0c2 B0c3 B0c4 B0lt
  refine (toInt64S_any a2 z2 c2 _ R2.out hs2).mono ?_
  rintro e w4 ⟨rfl, hz, hrow, hb⟩
  replace D := Lib.hid (chain D.out hb)
  replace R0 := Lib.hid (R0.out.step hb)
  replace R1 := Lib.hid (R1.out.step hb)
  replace R2 := Lib.hid (R2.out.step hb)
  replace B0 := Lib.hid (B0.out.step hb)
  replace M0 := Lib.hid (M0.out.step hb)
  replace M1 := Lib.hid (M1.out.step hb)
  have M2 := Lib.hid (Ints.of_row hrow)
  clear hb hrow hz
  have B0c0 := (B0.out).s0
  have B0c1 := (B0.out).s1
  have B0c2 := (B0.out).s2
  have B0c3 := (B0.out).s3
  have B0c4 := (B0.out).s4
  have B0lt := (B0.out).lt
  go_wp2_with fail
  clear B0c0 B0c1 B0c2 B0c3 B0c4 B0lt
  refine (HSP.out _ _ _ _ _ _ _ _ _ M0.out S0.out M1.out hs1 M2.out hs2).mono ?_
  rintro e w5 ⟨rfl, hb⟩
  replace D := Lib.hid (chain D.out hb)
  replace R0 := Lib.hid (R0.out.step hb)
  replace R1 := Lib.hid (R1.out.step hb)
  replace R2 := Lib.hid (R2.out.step hb)
  replace B0 := Lib.hid (B0.out.step hb)
  clear hb M0 M1 M2
  have B0c0 := (B0.out).s0
  have B0c1 := (B0.out).s1
  have B0c2 := (B0.out).s2
  have B0c3 := (B0.out).s3
  have B0c4 := (B0.out).s4
  have B0lt := (B0.out).lt
  go_wp2_with fail
  clear B0c0 B0c1 B0c2 B0c3 B0c4 B0lt
  generalize w5 = v4 at *
  have E := Lib.hid (Below.refl v4.heap.size v4)
  refine (toScheme_any h0 f0 l0 ao0 yo0 co0 a0 z0 c0 _ (R0.out.step E.out) S0.out).mono ?_
  rintro e w6 ⟨rfl, hz, hrow, hb⟩
  obtain ⟨g0, hg0⟩ : ∃ g, v4.heap.size + 3 = g := ⟨_, rfl⟩
  rw [hg0] at hrow ⊢
  have hlo : v4.heap.size ≤ g0 := by omega
  replace E := Lib.hid (chain E.out hb)
  have X0 := Lib.hid hrow
  have G0 := Lib.hid (show v4.heap.size ≤ g0 ∧ g0 + 5 + z0.length ≤ w6.heap.size from ⟨hlo, by omega⟩)
  clear hb hrow hz hg0 hlo
  have B0c0 := (B0.out.step E.out).s0
  have B0c1 := (B0.out.step E.out).s1
  have B0c2 := (B0.out.step E.out).s2
  have B0c3 := (B0.out.step E.out).s3
  have B0c4 := (B0.out.step E.out).s4
  have B0lt := (B0.out.step E.out).lt
  go_wp2_with fail
  clear B0c0 B0c1 B0c2 B0c3 B0c4 B0lt
  have hsz : w6.heap.size ≤ (w6.alloc (.cells #[.int .i64 h0, .slice (some ⟨g0, 0, none⟩) yo0.length yo0.length, .int .i64 f0, .int .i64 l0, .slice (some ⟨g0 + 4, 0, none⟩) z0.length z0.length] 33)).heap.size := by simp
  replace G0 := Lib.hid (show v4.heap.size ≤ g0 ∧ g0 + 5 + z0.length ≤ (w6.alloc (.cells #[.int .i64 h0, .slice (some ⟨g0, 0, none⟩) yo0.length yo0.length, .int .i64 f0, .int .i64 l0, .slice (some ⟨g0 + 4, 0, none⟩) z0.length z0.length] 33)).heap.size from ⟨G0.out.1, Nat.le_trans G0.out.2 hsz⟩)
  have HPX0 := Lib.hid (show v4.heap.size ≤ w6.heap.size from E.out.size)
  clear hsz
  have hb := (Below.refl w6.heap.size w6).alloc (Nat.le_refl _) (.cells #[.int .i64 h0, .slice (some ⟨g0, 0, none⟩) yo0.length yo0.length, .int .i64 f0, .int .i64 l0, .slice (some ⟨g0 + 4, 0, none⟩) z0.length z0.length] 33)
  have ha : Boxes (w6.alloc (.cells #[.int .i64 h0, .slice (some ⟨g0, 0, none⟩) yo0.length yo0.length, .int .i64 f0, .int .i64 l0, .slice (some ⟨g0 + 4, 0, none⟩) z0.length z0.length] 33)) w6.heap.size 33 #[.int .i64 h0, .slice (some ⟨g0, 0, none⟩) yo0.length yo0.length, .int .i64 f0, .int .i64 l0, .slice (some ⟨g0 + 4, 0, none⟩) z0.length z0.length] := World.alloc_heap_new w6 _
  generalize w6.alloc (.cells #[.int .i64 h0, .slice (some ⟨g0, 0, none⟩) yo0.length yo0.length, .int .i64 f0, .int .i64 l0, .slice (some ⟨g0 + 4, 0, none⟩) z0.length z0.length] 33) = y0 at *
  replace E := Lib.hid (chain E.out hb)
  replace X0 := Lib.hid (X0.out.step hb)
  have PX0 := Lib.hid ha
  clear hb ha
  generalize w6.heap.size = px0 at *
  refine (toInt64S_any a1 z1 c1 _ (R1.out.step E.out) hs1).mono ?_
  rintro e w7 ⟨rfl, hz, hrow, hb⟩
  obtain ⟨g1, hg1⟩ : ∃ g, y0.heap.size = g := ⟨_, rfl⟩
  rw [hg1] at hrow hz ⊢
  have hlo : v4.heap.size ≤ g1 := by have := G0.out; omega
  replace E := Lib.hid (chain E.out hb)
  replace X0 := Lib.hid (X0.out.step hb)
  replace PX0 := Lib.hid (PX0.out.step hb)
  have X1 := Lib.hid (own_of_row hrow (by unfold maxLen; omega))
  have G1 := Lib.hid (show v4.heap.size ≤ g1 ∧ g1 + 1 ≤ w7.heap.size from ⟨hlo, by omega⟩)
  have GG1 := Lib.hid (show g0 + 5 + z0.length ≤ g1 by have := G0.out; omega)
  clear hb hrow hz hg1 hlo
  have B0c0 := (B0.out.step E.out).s0
  have B0c1 := (B0.out.step E.out).s1
  have B0c2 := (B0.out.step E.out).s2
  have B0c3 := (B0.out.step E.out).s3
  have B0c4 := (B0.out.step E.out).s4
  have B0lt := (B0.out.step E.out).lt
  have PX0c0 := (PX0.out).s0
  have PX0c1 := (PX0.out).s1
  have PX0c2 := (PX0.out).s2
  have PX0c3 := (PX0.out).s3
  have PX0c4 := (PX0.out).s4
  have PX0lt := (PX0.out).lt
  go_wp2_with fail
  clear B0c0 B0c1 B0c2 B0c3 B0c4 B0lt PX0c0 PX0c1 PX0c2 PX0c3 PX0c4 PX0lt
  refine (toInt64S_any a2 z2 c2 _ (R2.out.step E.out) hs2).mono ?_
  rintro e w8 ⟨rfl, hz, hrow, hb⟩
  obtain ⟨g2, hg2⟩ : ∃ g, w7.heap.size = g := ⟨_, rfl⟩
  rw [hg2] at hrow hz ⊢
  have hlo : v4.heap.size ≤ g2 := by have := G1.out; omega
  replace E := Lib.hid (chain E.out hb)
  replace X0 := Lib.hid (X0.out.step hb)
  replace PX0 := Lib.hid (PX0.out.step hb)
  replace X1 := Lib.hid (X1.out.step hb)
  have X2 := Lib.hid (own_of_row hrow (by unfold maxLen; omega))
  have G2 := Lib.hid (show v4.heap.size ≤ g2 ∧ g2 + 1 ≤ w8.heap.size from ⟨hlo, by omega⟩)
  have GG2 := Lib.hid (show g1 + 1 ≤ g2 by have := G1.out; omega)
  clear hb hrow hz hg2 hlo
  have B0c0 := (B0.out.step E.out).s0
  have B0c1 := (B0.out.step E.out).s1
  have B0c2 := (B0.out.step E.out).s2
  have B0c3 := (B0.out.step E.out).s3
  have B0c4 := (B0.out.step E.out).s4
  have B0lt := (B0.out.step E.out).lt
  have PX0c0 := (PX0.out).s0
  have PX0c1 := (PX0.out).s1
  have PX0c2 := (PX0.out).s2
  have PX0c3 := (PX0.out).s3
  have PX0c4 := (PX0.out).s4
  have PX0lt := (PX0.out).lt
  go_wp2_with fail
  clear B0c0 B0c1 B0c2 B0c3 B0c4 B0lt PX0c0 PX0c1 PX0c2 PX0c3 PX0c4 PX0lt
  refine (HIM.out _ _ _ _ _ _ _ _ w8 X0.out.rows S0.out (Ints_of_own X1.out) hs1 (Ints_of_own X2.out) hs2).mono ?_
  rintro e w9 ⟨rfl, hb⟩
  replace E := Lib.hid (chain E.out hb)
  replace X0 := Lib.hid (X0.out.step hb)
  replace PX0 := Lib.hid (PX0.out.step hb)
  replace X1 := Lib.hid (X1.out.step hb)
  replace X2 := Lib.hid (X2.out.step hb)
  clear hb
  have B0c0 := (B0.out.step E.out).s0
  have B0c1 := (B0.out.step E.out).s1
  have B0c2 := (B0.out.step E.out).s2
  have B0c3 := (B0.out.step E.out).s3
  have B0c4 := (B0.out.step E.out).s4
  have B0lt := (B0.out.step E.out).lt
  have PX0c0 := (PX0.out).s0
  have PX0c1 := (PX0.out).s1
  have PX0c2 := (PX0.out).s2
  have PX0c3 := (PX0.out).s3
  have PX0c4 := (PX0.out).s4
  have PX0lt := (PX0.out).lt
  go_wp2_with fail
  clear B0c0 B0c1 B0c2 B0c3 B0c4 B0lt PX0c0 PX0c1 PX0c2 PX0c3 PX0c4 PX0lt
  have K : Carry v4 g0 yo0 z0 px0 h0 f0 l0 g1 z1 g2 z2 _ := ⟨E.out, X0.out, PX0.out, X1.out, X2.out⟩
  have B0c0 := (B0.out.step E.out).s0
  have B0c1 := (B0.out.step E.out).s1
  have B0c2 := (B0.out.step E.out).s2
  have B0c3 := (B0.out.step E.out).s3
  have B0c4 := (B0.out.step E.out).s4
  have B0lt := (B0.out.step E.out).lt
  have PX0c0 := (PX0.out).s0
  have PX0c1 := (PX0.out).s1
  have PX0c2 := (PX0.out).s2
  have PX0c3 := (PX0.out).s3
  have PX0c4 := (PX0.out).s4
  have PX0lt := (PX0.out).lt
  go_wp2_with fail
  go_region_held3 (fun w' => w'.cell? ⟨w.heap.size, 0, none⟩ = some (.int .i64 h0) ∧ w'.cell? ⟨w.heap.size, 1, none⟩ = some (.slice ao0 yo0.length co0) ∧ w'.cell? ⟨w.heap.size, 2, none⟩ = some (.int .i64 f0) ∧ w'.cell? ⟨w.heap.size, 3, none⟩ = some (.int .i64 l0) ∧ w'.cell? ⟨w.heap.size, 4, none⟩ = some (.slice a0 z0.length c0) ∧ w'.cell? ⟨px0, 0, none⟩ = some (.int .i64 h0) ∧ w'.cell? ⟨px0, 1, none⟩ = some (.slice (some ⟨g0, 0, none⟩) yo0.length yo0.length) ∧ w'.cell? ⟨px0, 2, none⟩ = some (.int .i64 f0) ∧ w'.cell? ⟨px0, 3, none⟩ = some (.int .i64 l0) ∧ w'.cell? ⟨px0, 4, none⟩ = some (.slice (some ⟨g0 + 4, 0, none⟩) z0.length z0.length) ∧ Carry v4 g0 yo0 z0 px0 h0 f0 l0 g1 z1 g2 z2 w') (first | exact ⟨cell_step (drew_step _) B0c0, cell_step (drew_step _) B0c1, cell_step (drew_step _) B0c2, cell_step (drew_step _) B0c3, cell_step (drew_step _) B0c4, cell_step (drew_step _) PX0c0, cell_step (drew_step _) PX0c1, cell_step (drew_step _) PX0c2, cell_step (drew_step _) PX0c3, cell_step (drew_step _) PX0c4, K.step (drew_step _)⟩ | exact keep10 hb (fun k => k.step hb) (by assumption)) (first | (go_at_call 17; obtain ⟨_, _, _, _, _, _, _, _, _, _, KK⟩ := ‹_ ∧ _ ∧ _ ∧ _ ∧ _ ∧ _ ∧ _ ∧ _ ∧ _ ∧ _ ∧ Carry v4 g0 yo0 z0 px0 h0 f0 l0 g1 z1 g2 z2 _›; refine (toScheme_any h0 f0 l0 ao0 yo0 co0 a0 z0 c0 _ (R0.out.step KK.e) S0.out).mono ?_; rintro e wf ⟨rfl, -, hof, hb⟩; have hx1 := KK.x0.step hb; clear KK) | (go_at_call 21; refine (eqScheme_same h0 f0 l0 _ _ yo0 _ _ _ _ z0 _ _ _ hx1.rows hof.rows S0.out.lens).mono ?_; rintro e w9 ⟨rfl, hb⟩))
  clear B0c0 B0c1 B0c2 B0c3 B0c4 B0lt PX0c0 PX0c1 PX0c2 PX0c3 PX0c4 PX0lt K hb hx1 hof
  obtain ⟨-, -, -, -, -, -, -, -, -, -, K⟩ := ‹_ ∧ _ ∧ _ ∧ _ ∧ _ ∧ _ ∧ _ ∧ _ ∧ _ ∧ _ ∧ Carry v4 g0 yo0 z0 px0 h0 f0 l0 g1 z1 g2 z2 _›
  replace E := Lib.hid K.e
  replace X0 := Lib.hid K.x0
  replace PX0 := Lib.hid K.b0
  replace X1 := Lib.hid K.x1
  replace X2 := Lib.hid K.x2
  clear K
  have B0c0 := (B0.out.step E.out).s0
  have B0c1 := (B0.out.step E.out).s1
  have B0c2 := (B0.out.step E.out).s2
  have B0c3 := (B0.out.step E.out).s3
  have B0c4 := (B0.out.step E.out).s4
  have B0lt := (B0.out.step E.out).lt
  have PX0c0 := (PX0.out).s0
  have PX0c1 := (PX0.out).s1
  have PX0c2 := (PX0.out).s2
  have PX0c3 := (PX0.out).s3
  have PX0c4 := (PX0.out).s4
  have PX0lt := (PX0.out).lt
  go_wp2_with fail
  clear B0c0 B0c1 B0c2 B0c3 B0c4 B0lt PX0c0 PX0c1 PX0c2 PX0c3 PX0c4 PX0lt
  refine (toInt64S_any a1 z1 c1 _ (R1.out.step E.out) hs1).mono ?_
  rintro e w10 ⟨rfl, hz, hrow, hb⟩
  replace E := Lib.hid (chain E.out hb)
  replace X0 := Lib.hid (X0.out.step hb)
  replace PX0 := Lib.hid (PX0.out.step hb)
  replace X1 := Lib.hid (X1.out.step hb)
  replace X2 := Lib.hid (X2.out.step hb)
  have Y := Lib.hid (Ints.of_row hrow)
  clear hb hrow hz
  have B0c0 := (B0.out.step E.out).s0
  have B0c1 := (B0.out.step E.out).s1
  have B0c2 := (B0.out.step E.out).s2
  have B0c3 := (B0.out.step E.out).s3
  have B0c4 := (B0.out.step E.out).s4
  have B0lt := (B0.out.step E.out).lt
  have PX0c0 := (PX0.out).s0
  have PX0c1 := (PX0.out).s1
  have PX0c2 := (PX0.out).s2
  have PX0c3 := (PX0.out).s3
  have PX0c4 := (PX0.out).s4
  have PX0lt := (PX0.out).lt
  go_wp2_with fail
  clear B0c0 B0c1 B0c2 B0c3 B0c4 B0lt PX0c0 PX0c1 PX0c2 PX0c3 PX0c4 PX0lt
  refine (eqInt64S_same _ _ z1 _ _ _ (Ints_of_own X1.out) Y.out (by omega)).mono ?_
  rintro e w11 ⟨rfl, hq⟩
  have hb := quiet_below hq
  replace E := Lib.hid (chain E.out hb)
  replace X0 := Lib.hid (X0.out.step hb)
  replace PX0 := Lib.hid (PX0.out.step hb)
  replace X1 := Lib.hid (X1.out.step hb)
  replace X2 := Lib.hid (X2.out.step hb)
  clear hb hq Y
  have B0c0 := (B0.out.step E.out).s0
  have B0c1 := (B0.out.step E.out).s1
  have B0c2 := (B0.out.step E.out).s2
  have B0c3 := (B0.out.step E.out).s3
  have B0c4 := (B0.out.step E.out).s4
  have B0lt := (B0.out.step E.out).lt
  have PX0c0 := (PX0.out).s0
  have PX0c1 := (PX0.out).s1
  have PX0c2 := (PX0.out).s2
  have PX0c3 := (PX0.out).s3
  have PX0c4 := (PX0.out).s4
  have PX0lt := (PX0.out).lt
  go_wp2_with fail
  clear B0c0 B0c1 B0c2 B0c3 B0c4 B0lt PX0c0 PX0c1 PX0c2 PX0c3 PX0c4 PX0lt
  refine (toInt64S_any a2 z2 c2 _ (R2.out.step E.out) hs2).mono ?_
  rintro e w12 ⟨rfl, hz, hrow, hb⟩
  replace E := Lib.hid (chain E.out hb)
  replace X0 := Lib.hid (X0.out.step hb)
  replace PX0 := Lib.hid (PX0.out.step hb)
  replace X1 := Lib.hid (X1.out.step hb)
  replace X2 := Lib.hid (X2.out.step hb)
  have Y := Lib.hid (Ints.of_row hrow)
  clear hb hrow hz
  have B0c0 := (B0.out.step E.out).s0
  have B0c1 := (B0.out.step E.out).s1
  have B0c2 := (B0.out.step E.out).s2
  have B0c3 := (B0.out.step E.out).s3
  have B0c4 := (B0.out.step E.out).s4
  have B0lt := (B0.out.step E.out).lt
  have PX0c0 := (PX0.out).s0
  have PX0c1 := (PX0.out).s1
  have PX0c2 := (PX0.out).s2
  have PX0c3 := (PX0.out).s3
  have PX0c4 := (PX0.out).s4
  have PX0lt := (PX0.out).lt
  go_wp2_with fail
  clear B0c0 B0c1 B0c2 B0c3 B0c4 B0lt PX0c0 PX0c1 PX0c2 PX0c3 PX0c4 PX0lt
  refine (eqInt64S_same _ _ z2 _ _ _ (Ints_of_own X2.out) Y.out (by omega)).mono ?_
  rintro e w13 ⟨rfl, hq⟩
  have hb := quiet_below hq
  replace E := Lib.hid (chain E.out hb)
  replace X0 := Lib.hid (X0.out.step hb)
  replace PX0 := Lib.hid (PX0.out.step hb)
  replace X1 := Lib.hid (X1.out.step hb)
  replace X2 := Lib.hid (X2.out.step hb)
  clear hb hq Y
  have B0c0 := (B0.out.step E.out).s0
  have B0c1 := (B0.out.step E.out).s1
  have B0c2 := (B0.out.step E.out).s2
  have B0c3 := (B0.out.step E.out).s3
  have B0c4 := (B0.out.step E.out).s4
  have B0lt := (B0.out.step E.out).lt
  have PX0c0 := (PX0.out).s0
  have PX0c1 := (PX0.out).s1
  have PX0c2 := (PX0.out).s2
  have PX0c3 := (PX0.out).s3
  have PX0c4 := (PX0.out).s4
  have PX0lt := (PX0.out).lt
  go_wp2_with fail
  clear B0c0 B0c1 B0c2 B0c3 B0c4 B0lt PX0c0 PX0c1 PX0c2 PX0c3 PX0c4 PX0lt
  go_ret
  exact ⟨rfl, D.out.trans (E.out.mono D.out.size)⟩
end Rbd
end Go.Proofs.Ytekhjoenejgmaaa

namespace Go.Proofs.Ytekhjoenejgmaaa
open Go.ChangeShapes Go.WideShapes Go.ChangeAt Go.RowKit Go.Deep
set_option linter.unusedVariables false
namespace Rbd

theorem law (h0 f0 l0 : Int) (ao0 : Option Addr) (yo0 : List Int) (co0 : Nat) (a0 : Option Addr) (z0 : List (List Int)) (c0 : Nat) (a1 : Option Addr) (z1 : List Int) (c1 : Nat) (a2 : Option Addr) (z2 : List Int) (c2 : Nat) (w : World) (hr0 : InS w ao0 yo0 a0 z0) (hl0 : LenS yo0 z0) (wfh0 : (Lit.int .i64 h0).wf = true) (wff0 : (Lit.int .i64 f0).wf = true) (wfl0 : (Lit.int .i64 l0).wf = true) (hr1 : Ints w a1 z1) (hl1 : z1.length ≤ 9223372036854775807) (hr2 : Ints w a2 z2) (hl2 : z2.length ≤ 9223372036854775807) :
    Calls Try.prog 11 #[.agg #[.int .i64 h0, .slice ao0 yo0.length co0, .int .i64 f0, .int .i64 l0, .slice a0 z0.length c0], .slice a1 z1.length c1, .slice a2 z2.length c2] w fun e w' => e = .returned (.bool true) ∧ Below w.heap.size w w' :=
  law_of h0 f0 l0 ao0 yo0 co0 a0 z0 c0 a1 z1 c1 a2 z2 c2 (rbV h0 f0 l0 yo0 z0 z1 z2) (rbC h0 f0 l0 yo0 z0 z1 z2) w hr0 hl0 wfh0 wff0 wfl0 hr1 hl1 hr2 hl2  (fun _ _ _ _ _ _ _ _ W r0 s0 r1 s1 r2 s2 => specRbd_any h0 f0 l0 _ yo0 _ _ z0 _ _ z1 _ _ z2 _ W r0 s0.lens r1 (by omega) r2 (by omega)) (fun _ _ _ _ _ _ _ _ W r0 s0 r1 s1 r2 s2 => implRbd_any h0 f0 l0 _ yo0 _ _ z0 _ _ z1 _ _ z2 _ W r0 s0.lens r1 (by omega) r2 (by omega))

theorem own : ownKnob Try.prog.godebug = none := by kernel_rfl
theorem laidOut : laidOutB Try.prog = true := by kernel_rfl

set_option maxRecDepth 100000 in
theorem lifted (os : Os) (started : os.Started) (H : Type) (enc : TypeId × Value → H) :
    ReturnsInHanded {} Try.checked os 11 .any (Rows.fnExactRebuildSpec.pre6 enc Try.prog Try.f11 Rows.fnExactRebuildRow.domain false) (Rows.fnExactRebuildSpec.post enc Try.prog Try.f11 false true false false) := by
  refine returnsInHanded_of_change (C := Try.checked) own started (by kernel_rfl) Try.func11
    (ChangeSpec.witness6 (enc := enc) (C := Try.checked) false ⟨#[], #[.agg #[.int .i64 0, .slice none 0 0, .int .i64 0, .int .i64 0, .slice none 0 0], .slice none 0 0, .slice none 0 0], []⟩ 8 (by kernel_rfl) (by kernel_rfl) (by kernel_rfl) (by kernel_rfl)) ?_
  intro W base args ds gs before hval0 hW hcnd _
  have hval : ∀ (j : Nat) t v, Try.f11.params[j]? = some t → args[j]? = some v → Value.okWide Try.prog W .any base t v := hval0
  have hW' := hW
  obtain ⟨p, q, hA0, hV, rfl, hfz, hnd⟩ := hW
  have hA : DataW.TrodAll enc Try.prog W 0 (fun _ => true) true Try.f11.params.toList args.toList ds p := hA0
  rw [Try.params11] at hA hval
  obtain ⟨v0, vs0, d0, ds0, p0, q0, hargs, rfl, rfl, h0, r0⟩ := trodAll_cons hA
  obtain ⟨v1, vs1, d1, ds1, p1, q1, rfl, rfl, rfl, h1, r1⟩ := trodAll_cons r0
  obtain ⟨v2, vs2, d2, ds2, p2, q2, rfl, rfl, rfl, h2, r2⟩ := trodAll_cons r1
  obtain ⟨rfl, rfl, rfl⟩ := trodAll_nil r2
  obtain rfl : args = #[v0, v1, v2] := by cases args; simp_all
  obtain ⟨rfl, rfl⟩ := trodVars_none hV
  have k0 := h0
  have lt0 : ∀ x ∈ p0, x.block < W.heap.size := by obtain ⟨m, hm⟩ := k0; exact DataW.trod_lt m _ _ _ hm
  obtain ⟨hh0, ff0, kk0, ao0, yo0, co0, a0, z0, c0, rfl, rr0, ll0, wf0, wg0, wh0⟩ := open_sch (hval 0 27 v0 rfl rfl) h0
  have k1 := h1
  have lt1 : ∀ x ∈ p1, x.block < W.heap.size := by obtain ⟨m, hm⟩ := k1; exact DataW.trod_lt m _ _ _ hm
  obtain ⟨a1, len1, c1, rfl⟩ := okWide_slice Try.underlying22 (hval 1 22 v1 rfl rfl)
  obtain ⟨fuel1, hf1⟩ := h1
  obtain ⟨z1, rfl, rr1, ll1⟩ := open_ints1 (by simpa [Value.cells] using hf1)
  have k2 := h2
  have lt2 : ∀ x ∈ p2, x.block < W.heap.size := by obtain ⟨m, hm⟩ := k2; exact DataW.trod_lt m _ _ _ hm
  obtain ⟨a2, len2, c2, rfl⟩ := okWide_slice Try.underlying22 (hval 2 22 v2 rfl rfl)
  obtain ⟨fuel2, hf2⟩ := h2
  obtain ⟨z2, rfl, rr2, ll2⟩ := open_ints1 (by simpa [Value.cells] using hf2)
  clear hA0 hval0
  refine (law hh0 ff0 kk0 ao0 yo0 co0 a0 z0 c0 a1 z1 c1 a2 z2 c2 W rr0 ll0 wf0 wg0 wh0 rr1 ll1 rr2 ll2).mono fun e W' ⟨he, bel⟩ => ?_
  subst he
  exact ⟨_, rfl, _, _, _, [], _, [], hW', trodAll_mk1 (shut_bool Try.underlying4 _), (trodAll_cons_mk (Below.trod laidOut (by kernel_rfl) (of_decide_eq_true (by kernel_rfl)) k0 bel lt0) (trodAll_cons_mk (Below.trod laidOut (by kernel_rfl) (of_decide_eq_true (by kernel_rfl)) k1 bel lt1) (trodAll_cons_mk (Below.trod laidOut (by kernel_rfl) (of_decide_eq_true (by kernel_rfl)) k2 bel lt2) trodAll_mk0))), rfl, bel.frame _, fun h => by cases h⟩

theorem over : Rows.fnExactRebuildRow.holds Try.pinned (OpenSpec.ofChange Rows.fnExactRebuildSpec) :=
  OpenClaim.holds_of_wide 11 Try.f11 rfl rfl rfl rfl rfl rfl rfl ⟨rfl, rfl, rfl, rfl, rfl⟩ rfl rfl rfl rfl rfl (by kernel_rfl) Try.func11 (by kernel_rfl)
    (of_decide_eq_true (by kernel_rfl)) (by unfold Func.isWrapper; first | (rw [if_pos (by decide +kernel)]; kernel_rfl) | (rw [if_neg (by decide +kernel)]; exact ⟨rfl, rfl⟩))
    (fun os started H enc _ => lifted os started H enc)

theorem proved : Rows.FnExactRebuildSaid := over

end Rbd
end Go.Proofs.Ytekhjoenejgmaaa

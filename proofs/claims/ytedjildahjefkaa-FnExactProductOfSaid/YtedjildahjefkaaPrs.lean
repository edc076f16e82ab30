/- ProductOf of the model. -/
import Derived.Test.YtedjildahjefkaaPr0
import Derived.Test.YtedjildahjefkaaTur
import Derived.Deep.AppendLies
import Derived.Deep.RegionLaw
namespace Go.Proofs.Ytedjildahjefkaa
open Go.RowKit Go.Deep
set_option linter.unusedVariables false

theorem Own.off {W W' : World} {base q : Nat} {v : Value} {us : List Value} {zss : List (List Int)} (h : Own W base v us zss) (hg : W.grownBy W' (some q)) (hq : q < base) : Own W' base v us zss :=
  ⟨h.row.kept hg (.inr (row_ge h.row hq)), h.rows.map fun u zs ho => ho.kept hg (.inr (row_ge ho hq))⟩
theorem Own.rowsp {W : World} {base n c : Nat} {a : Option Addr} {us : List Value} {zss : List (List Int)} (h : Own W base (.slice a n c) us zss) : Rows2 W a zss := by
  obtain ⟨a', c', e, hr⟩ := h.rows2
  cases e
  exact hr
theorem grown_mix {a b c : World} {q : Nat} {row : Option Nat} (h : a.grownBy b (some q)) (k : b.grownBy c row) (hr : ∀ r, row = some r → a.heap.size ≤ r) : a.grownBy c (some q) :=
  ⟨k.os.trans h.os, k.tape.trans h.tape, k.output.trans h.output, Nat.le_trans h.size k.size, fun x hx hne => (k.block x (Nat.lt_of_lt_of_le hx h.size) (fun e => by have := hr x e.symm; omega)).trans (h.block x hx hne)⟩
theorem grown_none {a b : World} (h : Below a.heap.size a b) : a.grownBy b none := ⟨h.os, h.tape, h.output, h.size, fun x hx _ => h.block x hx⟩
/-- The first products of a row with columns. -/
def rowTo (z y : List (List Int)) (p : Int) (cn k j : Nat) : List Int := (List.range j).map fun c => dotAt z y k c cn % p
theorem rowTo_len (z y : List (List Int)) (p : Int) (cn k j : Nat) : (rowTo z y p cn k j).length = j := by simp [rowTo]
theorem rowTo_snoc (z y : List (List Int)) (p : Int) (cn k j : Nat) : rowTo z y p cn k (j + 1) = rowTo z y p cn k j ++ [dotAt z y k j cn % p] := by simp [rowTo, List.range_succ]
theorem prod_take (z y : List (List Int)) (p : Int) (cn n k : Nat) (h : k < z.length) : (prod z y p cn n).take (k + 1) = (prod z y p cn n).take k ++ [rowTo z y p cn k n] := by
  rw [take_snoc _ (by rw [prod_len]; exact h)]
  unfold prod rowTo
  rw [tab_row _ _ _ h]
theorem turned_at (y : List (List Int)) (n : Nat) {c q : Nat} (hc : c < n) (hq : q < y.length) : nth (nthL (turned y n) c) q = nth (nthL y q) c := by unfold turned; rw [tab_at _ _ _ hc hq]

set_option maxRecDepth 100000 in
set_option maxHeartbeats 8000000 in
theorem specPr_any (p c : Int) (a : Option Addr) (z : List (List Int)) (ca : Nat) (q d : Int) (b : Option Addr) (y : List (List Int)) (cb : Nat) (w : World) (hr : Rows2 w a z) (hl : Lens z) (hr' : Rows2 w b y) (hl' : Lens y) :
    Calls Try.prog 20 #[.agg #[.int .i64 p, .int .i64 c, .slice a z.length ca], .agg #[.int .i64 q, .int .i64 d, .slice b y.length cb]] w (GivesMY w (prSel p c z q d y 0 0 p) (prSel p c z q d y 0 0 d) (prSel p c z q d y [] [] (prod z y p c.toNat d.toNat)) (prSel p c z q d y 1 2 0)) := by
  have HR := Lib.hid hr
  have HL := Lib.hid hl
  have HR' := Lib.hid hr'
  have HL' := Lib.hid hl'
  clear hr hl hr' hl'
  go_enter Try.func20, Try.ntmps20
  go_wp2_with fail
  have hb3 := (((Below.refl w.heap.size w).alloc (Nat.le_refl _) (.cells #[.int .i64 p, .int .i64 c, .slice a z.length ca] 30)).alloc (by simp) (.cells #[.int .i64 q, .int .i64 d, .slice b y.length cb] 30)).alloc (by simp; omega) (.cells #[.int .i64 0, .int .i64 0, .slice none 0 0] 30)
  have hs3 : (((w.alloc (.cells #[.int .i64 p, .int .i64 c, .slice a z.length ca] 30)).alloc (.cells #[.int .i64 q, .int .i64 d, .slice b y.length cb] 30)).alloc (.cells #[.int .i64 0, .int .i64 0, .slice none 0 0] 30)).heap.size = w.heap.size + 3 := by simp
  have hx : Boxes (((w.alloc (.cells #[.int .i64 p, .int .i64 c, .slice a z.length ca] 30)).alloc (.cells #[.int .i64 q, .int .i64 d, .slice b y.length cb] 30)).alloc (.cells #[.int .i64 0, .int .i64 0, .slice none 0 0] 30)) w.heap.size 30 #[.int .i64 p, .int .i64 c, .slice a z.length ca] := (Boxes.step (World.alloc_heap_new w _) ((Below.refl _ _).alloc (Nat.le_refl _) (.cells #[.int .i64 q, .int .i64 d, .slice b y.length cb] 30))).step ((Below.refl _ _).alloc (Nat.le_refl _) (.cells #[.int .i64 0, .int .i64 0, .slice none 0 0] 30))
  have hy : Boxes (((w.alloc (.cells #[.int .i64 p, .int .i64 c, .slice a z.length ca] 30)).alloc (.cells #[.int .i64 q, .int .i64 d, .slice b y.length cb] 30)).alloc (.cells #[.int .i64 0, .int .i64 0, .slice none 0 0] 30)) (w.heap.size + 1) 30 #[.int .i64 q, .int .i64 d, .slice b y.length cb] := by
    have h : Boxes ((w.alloc (.cells #[.int .i64 p, .int .i64 c, .slice a z.length ca] 30)).alloc (.cells #[.int .i64 q, .int .i64 d, .slice b y.length cb] 30)) (w.alloc (.cells #[.int .i64 p, .int .i64 c, .slice a z.length ca] 30)).heap.size 30 #[.int .i64 q, .int .i64 d, .slice b y.length cb] := World.alloc_heap_new _ _
    simp only [World.size_alloc] at h
    exact h.step ((Below.refl _ _).alloc (Nat.le_refl _) (.cells #[.int .i64 0, .int .i64 0, .slice none 0 0] 30))
  have hz : Boxes (((w.alloc (.cells #[.int .i64 p, .int .i64 c, .slice a z.length ca] 30)).alloc (.cells #[.int .i64 q, .int .i64 d, .slice b y.length cb] 30)).alloc (.cells #[.int .i64 0, .int .i64 0, .slice none 0 0] 30)) (w.heap.size + 2) 30 #[.int .i64 0, .int .i64 0, .slice none 0 0] := by
    have h : Boxes (((w.alloc (.cells #[.int .i64 p, .int .i64 c, .slice a z.length ca] 30)).alloc (.cells #[.int .i64 q, .int .i64 d, .slice b y.length cb] 30)).alloc (.cells #[.int .i64 0, .int .i64 0, .slice none 0 0] 30)) ((w.alloc (.cells #[.int .i64 p, .int .i64 c, .slice a z.length ca] 30)).alloc (.cells #[.int .i64 q, .int .i64 d, .slice b y.length cb] 30)).heap.size 30 #[.int .i64 0, .int .i64 0, .slice none 0 0] := World.alloc_heap_new _ _
    simp only [World.size_alloc] at h
    exact h
  have hr3 := HR.out.below hb3 (Nat.le_refl _)
  refine (l03Ok_any w.heap.size p c a z ca _ hx hr3 HL.out).mono ?_
  generalize ((w.alloc (.cells #[.int .i64 p, .int .i64 c, .slice a z.length ca] 30)).alloc (.cells #[.int .i64 q, .int .i64 d, .slice b y.length cb] 30)).alloc (.cells #[.int .i64 0, .int .i64 0, .slice none 0 0] 30) = w3 at *
  rintro e w4 ⟨rfl, hq⟩
  have hb4 := quiet_below hq
  have HX := Lib.hid (hx.step hb4)
  have HY := Lib.hid (hy.step hb4)
  have HZ := Lib.hid (hz.step hb4)
  have HB := Lib.hid (hb3.trans (hb4.mono (by omega)))
  have hs4 : w.heap.size + 3 ≤ w4.heap.size := by have := hb4.size; omega
  clear hb3 hb4 hx hy hz hr3 hq hs3
  have r0 := HZ.out.m0
  have r1 := HZ.out.m1
  have r2 := HZ.out.m2
  have f0 := HZ.out.frozen 0
  have f1 := HZ.out.frozen 1
  have f2 := HZ.out.frozen 2
  have x0 := HX.out.m0
  have x1 := HX.out.m1
  have x2 := HX.out.m2
  have y0 := HY.out.m0
  have y1 := HY.out.m1
  have y2 := HY.out.m2
  have lz := HZ.out.lt
  have lx := HX.out.lt
  have ly := HY.out.lt
  by_cases hm : MatOk p c z
  case neg =>
    have HT := Lib.hid (tell_false hm)
    have HV := Lib.hid (fun (α : Type) (b r o : α) => pr_bad (q := q) (d := d) (y := y) (fun k => hm k.1) b r o)
    clear hm
    rw [HT.out]
    go_wp2_with fail
    refine bodyPost_ret (v := .tuple #[.agg #[.int .i64 0, .int .i64 0, .slice none 0 0], .int .i64 1]) (by simp [results, Try.results20, go_sem, r0, r1, r2]) rfl ⟨⟨.slice none 0 0, [], by rw [HV.out, HV.out, HV.out], by rw [HV.out]; exact Own.nil3 _ _⟩, (((HB.out.setCell (p := ⟨w.heap.size + 2, 0, none⟩) (by show w.heap.size ≤ w.heap.size + 2; omega) _).setCell (p := ⟨w.heap.size + 2, 1, none⟩) (by show w.heap.size ≤ w.heap.size + 2; omega) _).setCell (p := ⟨w.heap.size + 2, 2, none⟩) (by show w.heap.size ≤ w.heap.size + 2; omega) _)⟩
  have HT := Lib.hid (tell_true hm)
  have HM := Lib.hid hm
  clear hm
  rw [HT.out]
  go_wp2_with fail
  refine (l03Ok_any (w.heap.size + 1) q d b y cb _ HY.out (HR'.out.below HB.out (Nat.le_refl _)) HL'.out).mono ?_
  clear r0 r1 r2 f0 f1 f2 x0 x1 x2 y0 y1 y2 lz lx ly
  rintro e w5 ⟨rfl, hq⟩
  have hb5 := quiet_below hq
  replace HX := Lib.hid (HX.out.step hb5)
  replace HY := Lib.hid (HY.out.step hb5)
  replace HZ := Lib.hid (HZ.out.step hb5)
  replace HB := Lib.hid (HB.out.trans (hb5.mono HB.out.size))
  have hs5 : w.heap.size + 3 ≤ w5.heap.size := by have := hb5.size; omega
  clear hb5 hq hs4
  have r0 := HZ.out.m0
  have r1 := HZ.out.m1
  have r2 := HZ.out.m2
  have f0 := HZ.out.frozen 0
  have f1 := HZ.out.frozen 1
  have f2 := HZ.out.frozen 2
  have x0 := HX.out.m0
  have x1 := HX.out.m1
  have x2 := HX.out.m2
  have y0 := HY.out.m0
  have y1 := HY.out.m1
  have y2 := HY.out.m2
  have lz := HZ.out.lt
  have lx := HX.out.lt
  have ly := HY.out.lt
  by_cases hn : MatOk q d y
  case neg =>
    have HT := Lib.hid (tell_false hn)
    have HV := Lib.hid (fun (α : Type) (b r o : α) => pr_bad (p := p) (c := c) (z := z) (fun k => hn k.2) b r o)
    clear hn
    rw [HT.out]
    go_wp2_with fail
    refine bodyPost_ret (v := .tuple #[.agg #[.int .i64 0, .int .i64 0, .slice none 0 0], .int .i64 1]) (by simp [results, Try.results20, go_sem, r0, r1, r2]) rfl ⟨⟨.slice none 0 0, [], by rw [HV.out, HV.out, HV.out], by rw [HV.out]; exact Own.nil3 _ _⟩, (((HB.out.setCell (p := ⟨w.heap.size + 2, 0, none⟩) (by show w.heap.size ≤ w.heap.size + 2; omega) _).setCell (p := ⟨w.heap.size + 2, 1, none⟩) (by show w.heap.size ≤ w.heap.size + 2; omega) _).setCell (p := ⟨w.heap.size + 2, 2, none⟩) (by show w.heap.size ≤ w.heap.size + 2; omega) _)⟩
  have HU := Lib.hid (tell_true hn)
  have HN := Lib.hid hn
  clear hn
  rw [HU.out]
  have hyl : (y.length : Int) ≤ 20 := by have := HN.out.2.2.1; omega
  by_cases he : p = q ∧ c = (y.length : Int)
  case neg =>
    have HV := Lib.hid (fun (α : Type) (b r o : α) => pr_rng ⟨HM.out, HN.out⟩ he b r o)
    by_cases hpq : p = q
    · have hcd : (c != (y.length : Int)) = true := by simp; exact fun e => he ⟨hpq, e⟩
      subst hpq
      clear he
      go_wp2_with fail
      refine bodyPost_ret (v := .tuple #[.agg #[.int .i64 0, .int .i64 0, .slice none 0 0], .int .i64 2]) (by simp [results, Try.results20, go_sem, r0, r1, r2]) rfl ⟨⟨.slice none 0 0, [], by rw [HV.out, HV.out, HV.out], by rw [HV.out]; exact Own.nil3 _ _⟩, (((HB.out.setCell (p := ⟨w.heap.size + 2, 0, none⟩) (by show w.heap.size ≤ w.heap.size + 2; omega) _).setCell (p := ⟨w.heap.size + 2, 1, none⟩) (by show w.heap.size ≤ w.heap.size + 2; omega) _).setCell (p := ⟨w.heap.size + 2, 2, none⟩) (by show w.heap.size ≤ w.heap.size + 2; omega) _)⟩
    · have hpq' : (p != q) = true := by simp; exact hpq
      clear he
      go_wp2_with fail
      refine bodyPost_ret (v := .tuple #[.agg #[.int .i64 0, .int .i64 0, .slice none 0 0], .int .i64 2]) (by simp [results, Try.results20, go_sem, r0, r1, r2]) rfl ⟨⟨.slice none 0 0, [], by rw [HV.out, HV.out, HV.out], by rw [HV.out]; exact Own.nil3 _ _⟩, (((HB.out.setCell (p := ⟨w.heap.size + 2, 0, none⟩) (by show w.heap.size ≤ w.heap.size + 2; omega) _).setCell (p := ⟨w.heap.size + 2, 1, none⟩) (by show w.heap.size ≤ w.heap.size + 2; omega) _).setCell (p := ⟨w.heap.size + 2, 2, none⟩) (by show w.heap.size ≤ w.heap.size + 2; omega) _)⟩
  have HV := Lib.hid (fun (α : Type) (b r o : α) => pr_ok ⟨HM.out, HN.out⟩ he b r o)
  obtain ⟨rfl, hcy⟩ := he
  have hce : (c != (y.length : Int)) = false := by simp [hcy]
  have HCY := Lib.hid (show y.length = c.toNat by omega)
  have HDN := Lib.hid (show c = (c.toNat : Int) ∧ d = (d.toNat : Int) ∧ z.length ≤ 20 ∧ c.toNat ≤ 12 ∧ d.toNat ≤ 12 from ⟨by have := HM.out.2.1; omega, by have := HN.out.2.1; omega, HM.out.2.2.1, by have := HM.out.2.1; omega, by have := HN.out.2.1; omega⟩)
  have hp2 : 2 ≤ p := HM.out.1.1
  have hp31 : p ≤ 31 := HM.out.1.2.1
  have HRZ := Lib.hid (show ∀ r, r < z.length → (nthL z r).length = c.toNat ∧ Elems p (nthL z r) from fun r hr => ⟨by have := (HM.out.2.2.2 r hr).1; omega, (HM.out.2.2.2 r hr).2⟩)
  have HRY := Lib.hid (show ∀ r, r < y.length → (nthL y r).length = d.toNat ∧ Elems p (nthL y r) from fun r hr => ⟨by have := (HN.out.2.2.2 r hr).1; omega, (HN.out.2.2.2 r hr).2⟩)
  clear hcy
  go_wp2_with fail
  have hb6 := (Below.refl w5.heap.size w5).alloc (Nat.le_refl _) (.cells #[.int .i64 p, .int .i64 d, .slice none 0 0] 30)
  have ho6 : Boxes (w5.alloc (.cells #[.int .i64 p, .int .i64 d, .slice none 0 0] 30)) w5.heap.size 30 #[.int .i64 p, .int .i64 d, .slice none 0 0] := World.alloc_heap_new _ _
  have hs6 : (w5.alloc (.cells #[.int .i64 p, .int .i64 d, .slice none 0 0] 30)).heap.size = w5.heap.size + 1 := by simp
  replace HX := Lib.hid (HX.out.step hb6)
  replace HY := Lib.hid (HY.out.step hb6)
  replace HZ := Lib.hid (HZ.out.step hb6)
  replace HB := Lib.hid (HB.out.trans (hb6.mono HB.out.size))
  generalize w5.alloc (.cells #[.int .i64 p, .int .i64 d, .slice none 0 0] 30) = w6 at *
  generalize hoo : w5.heap.size = oo at *
  clear r0 r1 r2 f0 f1 f2 x0 x1 x2 y0 y1 y2 lz lx ly hb6 hce hyl HT HU
  have hcall := l03Turned_any (w.heap.size + 1) p d.toNat b y cb w6 (by have := HY.out; rw [HDN.out.2.1] at this; exact this) (HR'.out.below HB.out (Nat.le_refl _)) (by have := HN.out.2.2.1; omega) (by have := HDN.out; omega) (fun r hr => (HRY.out r hr).1)
  refine hcall.mono ?_
  clear hcall
  rintro e w7 ⟨⟨va, vc, ust, rfl, hot⟩, hb7⟩
  have hs7 : oo + 1 ≤ w7.heap.size := by have := hb7.size; omega
  have hb8 := (Below.refl w7.heap.size w7).alloc (Nat.le_refl _) (.cells #[.int .i64 p, .int .i64 (y.length : Int), .slice va d.toNat vc] 30)
  have HT8 := Lib.hid (show Boxes (w7.alloc (.cells #[.int .i64 p, .int .i64 (y.length : Int), .slice va d.toNat vc] 30)) w7.heap.size 30 #[.int .i64 p, .int .i64 (y.length : Int), .slice va d.toNat vc] from World.alloc_heap_new _ _)
  have hb68 := hb7.trans (hb8.mono hb7.size)
  replace HX := Lib.hid (HX.out.step hb68)
  replace HZ := Lib.hid (HZ.out.step hb68)
  replace HB := Lib.hid (HB.out.trans (hb68.mono HB.out.size))
  have HO8 := Lib.hid ((Boxes.step ho6 hb68))
  have HOT := Lib.hid (show Own (w7.alloc (.cells #[.int .i64 p, .int .i64 (y.length : Int), .slice va d.toNat vc] 30)) (oo + 1) (.slice va d.toNat vc) ust (turned y d.toNat) by have := hot.step hb8; rw [hs6] at this; exact this)
  clear HY ho6 hb7 hot hb68
  go_wp2_with fail
  have hs8 : (w7.alloc (.cells #[.int .i64 p, .int .i64 (y.length : Int), .slice va d.toNat vc] 30)).heap.size = w7.heap.size + 1 := by simp
  generalize w7.alloc (.cells #[.int .i64 p, .int .i64 (y.length : Int), .slice va d.toNat vc] 30) = w8 at *
  generalize hqq : w7.heap.size = qq at *
  obtain ⟨i0, hi, hz0, hz1, hz2⟩ := info_parts Try.infoInt64
  obtain ⟨i1, ji, jz0, jz1, jz2⟩ := info_parts Try.infoInt64S
  have HSS := Lib.hid (show w8.heap.size = qq + 1 ∧ w.heap.size + 3 ≤ oo ∧ oo + 1 ≤ qq from ⟨hs8, by omega, by omega⟩)
  clear hb8 hs8
  go_loopw [8, 9, 10] (fun qi q9 q10 wr => ∃ (k : Nat) (xa : Option Addr) (xc : Nat) (us : List Value), k ≤ z.length ∧ qi = .int .i64 k ∧ Boxes wr oo 30 #[.int .i64 p, .int .i64 d, .slice xa k xc] ∧ Own wr (qq + 1) (.slice xa k xc) us ((prod z y p c.toNat d.toNat).take k) ∧ w8.grownBy wr (some oo))
    (fun qi _ _ _ => z.length - (intOf qi).toNat)
  case atStart => exact ⟨0, none, 0, [], Nat.zero_le _, rfl, HO8.out, Own.nil3 _ _, World.grownBy.refl _ _⟩
  case round =>
    obtain ⟨k, xa, xc, us, hk, rfl, hx, hown, hg⟩ := hrel
    obtain ⟨e8, e9, e10⟩ := HSS.out
    have HXQ := Lib.hid hx
    have HOQ := Lib.hid hown
    have HG := Lib.hid hg
    have HXR := Lib.hid (HX.out.grown hg (by simp; omega))
    have HZR := Lib.hid (HZ.out.grown hg (by simp; omega))
    have HTR := Lib.hid (HT8.out.grown hg (by simp; omega))
    have HOTR := Lib.hid (HOT.out.off hg (Nat.lt_succ_self oo))
    have HBW := Lib.hid (HB.out.grown hg (by omega) (fun r hr => by cases hr; omega))
    have hsr : qq + 1 ≤ wr.heap.size := by have := hg.size; omega
    have bm2 := HXR.out.m2
    have lx := HXR.out.lt
    clear hx hown hg
    obtain ⟨wo, rfl⟩ : ∃ wo : World, wo = wr := ⟨_, rfl⟩
    by_cases hlt : k < z.length
    · have hi0 : (k : Int) < (z.length : Int) := by omega
      go_wp2_with fail
      have hown0 : OwnI (wo.alloc (.cells #[] 2)) wo.heap.size (.slice (some ⟨wo.heap.size, 0, none⟩) 0 0) (rowTo z y p c.toNat k 0) := by
        exact World.ownsRow_made wo (base := wo.heap.size) (e := 2) (size := 1) #[] 0 (Nat.le_refl _) (by unfold maxLen; omega) rfl
      have HOW := Lib.hid hown0
      have HBA := Lib.hid ((Below.refl wo.heap.size wo).alloc (Nat.le_refl _) (.cells #[] 2))
      clear hown0
      generalize wo.alloc (.cells #[] 2) = w9 at *
      generalize (Value.slice (some ⟨wo.heap.size, 0, none⟩) 0 0) = v0 at *
      go_loopw [9, 10] (fun q9 qj wi => ∃ (j : Nat), j ≤ d.toNat ∧ qj = .int .i64 j ∧ OwnI wi wo.heap.size q9 (rowTo z y p c.toNat k j) ∧ Below wo.heap.size wo wi)
        (fun _ qj _ => d.toNat - (intOf qj).toNat)
      case atStart => exact ⟨0, Nat.zero_le _, rfl, HOW.out, HBA.out⟩
      case round =>
        obtain ⟨j, hj, rfl, ho, hb⟩ := hrel
        obtain ⟨wi, hwi⟩ : ∃ wi : World, wi = wr := ⟨_, rfl⟩
        subst hwi
        have HOI := Lib.hid (show wi.ownsRow wo.heap.size 2 1 u9 j (vals (rowTo z y p c.toNat k j)) by have := ho; unfold OwnI at this; rw [rowTo_len] at this; exact this)
        have HOJ := Lib.hid ho
        have HBI := Lib.hid hb
        have hsz := hb.size
        have HTI := Lib.hid (HTR.out.step hb)
        have HXI := Lib.hid (HXR.out.step hb)
        have tq2 := HTI.out.m2
        have tl := HTI.out.lt
        have xm0 := HXI.out.m0
        have xm2 := HXI.out.m2
        have xl := HXI.out.lt
        have HOTI := Lib.hid (HOTR.out.step hb).rowsp
        clear ho hb HOW HBA bm2 lx
        by_cases hltj : j < d.toNat
        · have hj0 : (j : Int) < (d.toNat : Int) := by omega
          rcases (HR.out.below (HBW.out.trans (HBI.out.mono HBW.out.size)) (Nat.le_refl _) : Rows2 wi a z) with h | ⟨zb, zo, rfl, hzc⟩
          · rw [h] at hlt; exact absurd hlt (Nat.not_lt_zero _)
          obtain ⟨ai, ci, hrow, hints⟩ := hzc k hlt
          rcases HOTI.out with h | ⟨tb, tx, rfl, htc⟩
          · exact absurd (show (turned y d.toNat).length = 0 by rw [h]; rfl) (by rw [turned_len]; omega)
          obtain ⟨at1, ct, htrow, htints⟩ := htc j (by rw [turned_len]; exact hltj)
          have HI1 := Lib.hid hints
          have HI2 := Lib.hid htints
          have hlk := (HRZ.out k hlt).1
          have HL12 := Lib.hid (show (nthL z k).length = (nthL (turned y d.toNat) j).length ∧ (nthL z k).length ≤ 1000 by rw [turned_rlen y _ hltj, hlk, HCY.out]; exact ⟨rfl, by have := HDN.out; omega⟩)
          have HE1 := Lib.hid (HRZ.out k hlt).2
          have HE2 := Lib.hid (show Elems p (nthL (turned y d.toNat) j) from fun x hx => by
            rw [turned_rlen y _ hltj] at hx
            rw [turned_at y _ hltj hx]
            exact (HRY.out x hx).2 j (by rw [(HRY.out x hx).1]; exact hltj))
          have HDOT := Lib.hid (show dotTo (nth (nthL z k)) (nth (nthL (turned y d.toNat) j)) (nthL z k).length = dotAt z y k j c.toNat by
            rw [hlk]
            exact dotTo_congr c.toNat (fun x hx => ⟨rfl, turned_at y _ hltj (by rw [HCY.out]; exact hx)⟩) _ (Nat.le_refl _))
          have HSN := Lib.hid (rowTo_snoc z y p c.toNat k j)
          have hjm : j ≤ 12 := by have := HDN.out; omega
          clear hzc htc hints htints hlk
          go_wp2_with fail
          go_region_law (first | (refine step_append_lies _ (by rfl) _ _ 22 (by rfl) wo.heap.size 2 i0 (.int .i64 0) 1 8 Try.underlying22 hi hz0 hz1 hz2 (by rfl) (by decide) u9 j (vals (rowTo z y p c.toNat k j)) (by simp [Act.eval]) (by first | exact World.ownsRow.alloc (row_step HOI.out HB10.out) _ | exact row_step (World.ownsRow.alloc (row_step HOI.out HB10.out) _) (drew_step _)) ⟨w10.heap.size, 0, none⟩ 1 1 [.int .i64 (dotTo (nth (nthL z k)) (nth (nthL (turned y d.toNat) j)) (nthL z k).length % p)] (by simp [Act.eval]) (by rfl) (by first | exact cell_one_new _ _ _ | (intro j u hj; exact cell_one_new w10 _ _ j u hj)) (by simp [Value.oneCell']) (by decide) (by unfold maxLen; omega) (by omega) (by simp; omega) _ rfl ?_; intro g cap w11 hown11 hgrow11 hat11 hlt11) | (go_simp; go_at_call 49; refine (l03Dot_any p ai at1 (nthL z k) (nthL (turned y d.toNat) j) ci ct _ hp2 hp31 (by first | exact HI1.out | exact HI1.out.step (drew_step _)) (by first | exact HI2.out | exact HI2.out.step (drew_step _)) HL12.out.1 HL12.out.2 HE1.out HE2.out).mono ?_; rintro e w10 ⟨rfl, hq10⟩; have HB10 := Lib.hid (show Below wi.heap.size wi w10 by first | exact (drew_step wi).trans (quiet_below hq10) | exact quiet_below hq10); have hs10 : wi.heap.size ≤ w10.heap.size := HB10.out.size))
          all_goals (
            have H11 := Lib.hid (show OwnI w11 wo.heap.size (.slice (some ⟨g, 0, none⟩) (j + 1) cap) (rowTo z y p c.toNat k (j + 1)) by
              rw [HSN.out, ← HDOT.out]; unfold OwnI; rw [vals_snoc, List.length_append, rowTo_len]; exact hown11)
            have HB11 := Lib.hid (show Below wo.heap.size wo w11 from Below.grown (by first | exact (HBI.out.trans (HB10.out.mono hsz)).alloc (by omega) _ | exact ((HBI.out.trans (HB10.out.mono hsz)).alloc (by omega) _).drew) hgrow11 (by simp; omega) (fun q hq => (row_lt HOI.out hq).1))
            clear hown11 hgrow11 hat11 hlt11
            go_wp2_with fail
            go_roundw
            case rel => exact ⟨j + 1, by omega, by go_num, H11.out, HB11.out⟩
            case measure => simp [intOf]; omega)
        · have HE := Lib.hid (show j = d.toNat by omega)
          have hx1 := HXQ.out.step HBI.out
          have e2 := hx1.m2
          have f2 := hx1.frozen 2
          have hl1 := hx1.lt
          have hx1w : oo < wi.heap.size + 1 := by omega
          have HX1 := Lib.hid hx1
          have HOI2 := Lib.hid (show OwnI wi wo.heap.size u9 (rowTo z y p c.toNat k d.toNat) by have := HOJ.out; rw [HE.out] at this; exact this)
          obtain ⟨ua, uc, hu9⟩ := rowForm HOI2.out
          rw [rowTo_len] at hu9
          subst hu9
          have HRN := Lib.hid (HOQ.out.rows.snoc HBI.out HOI2.out hsr)
          have HOG := Lib.hid (row_step HOQ.out.row HBI.out)
          have hlk : ((prod z y p c.toNat d.toNat).take k).length = k := by rw [List.length_take, prod_len]; omega
          have HLK := Lib.hid hlk
          have HTK := Lib.hid (prod_take z y p c.toNat d.toNat k hlt)
          have hk20 : k ≤ 20 := by have := HDN.out; omega
          clear hx1 hlk HOI HOJ xm0 xm2 xl
          go_wp2_with (at_builtin; go_must (refine wpList_append_own _ rfl _ _ 26 rfl (qq + 1) 22 i1 (.slice none 0 0) 1 24 Try.underlying26 ji jz0 jz1 jz2 rfl (by decide) _ _ us rfl (World.ownsRow.alloc HOG.out _) ⟨wi.heap.size, 0, none⟩ 1 1 [(.slice ua d.toNat uc)] rfl rfl (cell_one_new _ _ _) (by simp [Value.oneCell']) (by rw [HLK.out]; unfold maxLen; omega) (by rw [HLK.out]; omega) (by simp; omega) ?_); intro v' w12 hown12 hgrow12 _; rw [HLK.out] at hown12; obtain ⟨va', vc', rfl⟩ := rowForm hown12; have hxx := (HX1.out.step ((Below.refl _ _).alloc (Nat.le_refl _) (.cells #[(.slice ua d.toNat uc)] 22))).grown hgrow12 (row_ge HOG.out (by omega)); have g2 := hxx.m2; have gf := hxx.frozen 2)
          have hz12 : oo < w12.heap.size := hxx.lt
          have HX12 := Lib.hid hxx
          have HO12 := Lib.hid hown12
          have HG12 := Lib.hid hgrow12
          clear hxx hown12 hgrow12
          go_wp2_with fail
          go_roundw
          case rel =>
            refine ⟨k + 1, va', vc', us ++ [(.slice ua d.toNat uc)], by omega, by go_num, HX12.out.set3d _, ⟨?_, ?_⟩, ?_⟩
            · have := row_set (u := .slice va' (k + 1) vc') (o := 2) HO12.out (show oo < qq + 1 by omega)
              rw [HTK.out, List.length_append, HLK.out]
              exact this
            · rw [HTK.out]
              refine (HRN.out.map (W' := w12) fun u zs ho => row_other (World.ownsRow.alloc ho _) (World.ownsRow.alloc HOG.out _) HG12.out (by decide)).map fun u zs ho => row_set ho (show oo < qq + 1 by omega) _
            · have g1 := grown_mix HG.out (grown_none (HBI.out.alloc hsz (.cells #[(.slice ua d.toNat uc)] 22))) (fun r hr => by cases hr)
              have g2 := grown_mix g1 HG12.out (fun r hr => by have := row_lt HOG.out hr; omega)
              exact grown_trans g2 (grown_set w12 oo 2 _)
          case measure => simp [intOf]; omega
    · have HE := Lib.hid (show k = z.length by omega)
      have ht : (prod z y p c.toNat d.toNat).take k = prod z y p c.toNat d.toNat := by rw [HE.out]; exact List.take_of_length_le (by rw [prod_len]; omega)
      have ho := HOQ.out
      rw [ht, HE.out] at ho
      have c0 := HXQ.out.m0
      have c1 := HXQ.out.m1
      have c2 := HXQ.out.m2
      rw [HE.out] at c2
      have r0 := HZR.out.m0
      have r1 := HZR.out.m1
      have r2 := HZR.out.m2
      have s0 := HZR.out.frozen 0
      have s1 := HZR.out.frozen 1
      have s2 := HZR.out.frozen 2
      have lz := HZR.out.lt
      have HO9 := Lib.hid ho
      clear ho ht
      go_wp2_with fail
      refine bodyPost_ret (v := .tuple #[.agg #[.int .i64 p, .int .i64 d, .slice xa z.length xc], .int .i64 0]) (by simp [results, Try.results20, go_sem, r0, r1, r2]) rfl ⟨⟨.slice xa z.length xc, us, by rw [HV.out, HV.out, HV.out], ?_⟩, ?_⟩
      · rw [HV.out]
        exact ((((HO9.out.setCell3 (p := ⟨w.heap.size + 2, 0, none⟩) (by show w.heap.size + 2 < qq + 1; omega) _).setCell3 (p := ⟨w.heap.size + 2, 1, none⟩) (by show w.heap.size + 2 < qq + 1; omega) _).setCell3 (p := ⟨w.heap.size + 2, 2, none⟩) (by show w.heap.size + 2 < qq + 1; omega) _)).mono3 (by omega)
      · exact (((HBW.out.setCell (p := ⟨w.heap.size + 2, 0, none⟩) (by show w.heap.size ≤ w.heap.size + 2; omega) _).setCell (p := ⟨w.heap.size + 2, 1, none⟩) (by show w.heap.size ≤ w.heap.size + 2; omega) _).setCell (p := ⟨w.heap.size + 2, 2, none⟩) (by show w.heap.size ≤ w.heap.size + 2; omega) _)
end Go.Proofs.Ytedjildahjefkaa

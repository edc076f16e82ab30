/- Dealing of the program: deal$1, mapped to shares, deal. -/
import Derived.Test.YtgndekojodpmkaaDoorCa
import Derived.Test.YtgndekojodpmkaaDoorSha
import Derived.Deep.RegionLaw
namespace Go.Proofs.YtgndekojodpmkaaDoor
open Go.RowKit Go.Deep
set_option linter.unusedVariables false

/-- Points with their values, as a flat list. -/
def dealt (f : Int → Int) : List Int → List Int
  | [] => []
  | x :: zs => x :: f x :: dealt f zs
theorem dealt_snoc (f : Int → Int) (zs : List Int) (x : Int) : dealt f (zs ++ [x]) = dealt f zs ++ [x, f x] := by
  induction zs with
  | nil => rfl
  | cons y zs ih => simp only [List.cons_append, dealt, ih]
theorem dealt_len (f : Int → Int) (zs : List Int) : (dealt f zs).length = zs.length * 2 := by
  induction zs with
  | nil => rfl
  | cons y zs ih => simp only [dealt, List.length_cons, ih]; omega
theorem vals_two (zs : List Int) (x y : Int) : vals (zs ++ [x, y]) = vals zs ++ [.int .i64 x, .int .i64 y] := by simp [vals]

set_option maxRecDepth 100000 in
set_option maxHeartbeats 2000000 in
theorem deal1_any (p x : Int) (Bc Bp : Nat) (a : Option Addr) (zs : List Int) (c : Nat) (W : World) (hbc : Boxes W Bc 84 #[.slice a zs.length c]) (hbp : Boxes W Bp 80 #[.int .i64 p]) (hz : Nums W a p zs) (hl : zs.length ≤ 1000) (hp : 2 ≤ p) (hp1 : p ≤ 31) (hx : Elem p x) (he : Elems p zs) :
    Calls Tryd.prog 100 #[.int .i64 x, .pointer (some ⟨Bc, 0, none⟩), .pointer (some ⟨Bp, 0, none⟩)] W fun e w' => e = .returned (.agg #[.int .i64 x, .int .i64 (hor p x zs.reverse)]) ∧ Below W.heap.size W w' := by
  obtain ⟨v, hv⟩ : ∃ v, hor p x zs.reverse = v := ⟨_, rfl⟩
  rw [hv]
  have HV := Lib.hid hv
  clear hv
  have hb1 := (Below.refl W.heap.size W).alloc (Nat.le_refl _) (.cells #[.int .i64 0, .int .i64 0] 91)
  have hr : Boxes (W.alloc (.cells #[.int .i64 0, .int .i64 0] 91)) W.heap.size 91 #[.int .i64 0, .int .i64 0] := World.alloc_heap_new W _
  have hc2 := hbc.step hb1
  have hp2 := hbp.step hb1
  have hz2 := hz.step hb1
  have hs2 : (W.alloc (.cells #[.int .i64 0, .int .i64 0] 91)).heap.size = W.heap.size + 1 := by simp
  clear hbc hbp hz
  go_enter Tryd.func100, Tryd.ntmps100
  go_wp2_with fail
  generalize W.alloc (.cells #[.int .i64 0, .int .i64 0] 91) = w2 at *
  have c1 : w2.cell? ⟨Bc, 0, none⟩ = some (.slice a zs.length c) := by rw [hc2.cell]; rfl
  have c2 : w2.cell? ⟨Bp, 0, none⟩ = some (.int .i64 p) := by rw [hp2.cell]; rfl
  have lc := hc2.lt
  have lp := hp2.lt
  have x60 := hr.c0
  have x61 := hr.c1
  have y60 := hr.frozen 0
  have y61 := hr.frozen 1
  have HR := Lib.hid hr
  have HC := Lib.hid hc2
  have HZ := Lib.hid hz2
  have HB := Lib.hid hb1
  have HX := Lib.hid hx
  have HE := Lib.hid he
  clear hr hc2 hp2 hz2 hb1 hx he
  have hfl := run_field_elt2 p v
  go_region_law (first
    | (go_simp; go_at_call 52; refine (number_any p x _).mono ?_; rintro e w8 ⟨rfl, hb8⟩; have HB8 := Lib.hid (show Below w2.heap.size w2 w8 by first | exact hb8 | exact (drew_step w2).trans hb8); have z50 : w8.cell? ⟨Bc, 0, none⟩ = some (.slice a zs.length c) := (by rw [(HC.out.step HB8.out).cell]; rfl))
    | (go_simp; go_at_call 51; refine (cat_any p x a zs c _ (by first | exact HZ.out.step HB8.out | exact HZ.out.step (HB8.out.drew)) hl hp hp1 HX.out HE.out).mono ?_; rw [HV.out]; rintro e w9 ⟨rfl, hb9⟩; have HB9 := Lib.hid (show Below w2.heap.size w2 w9 by first | exact HB8.out.trans (hb9.mono HB8.out.size) | exact HB8.out.drew.trans (hb9.mono HB8.out.size)); have z60 := (HR.out.step HB9.out).c0; have z61 := (HR.out.step HB9.out).c1; have zf0 := (HR.out.step HB9.out).frozen 0; have zf1 := (HR.out.step HB9.out).frozen 1; have zl := (HR.out.step HB9.out).lt))
  all_goals (
    go_wp2_with fail
    refine bodyPost_ret (v := .agg #[.int .i64 x, .int .i64 v]) (by simp [results, Tryd.results100, go_sem, z60, z61]) rfl ⟨rfl, ?_⟩
    have hb := HB.out.trans (HB9.out.mono HB.out.size)
    exact (hb.setCell (p := ⟨W.heap.size, 0, none⟩) (Nat.le_refl _) _).setCell (p := ⟨W.heap.size, 1, none⟩) (Nat.le_refl _) _)

set_option maxRecDepth 100000 in
set_option maxHeartbeats 2000000 in
theorem mapSh_any (p : Int) (Bc Bp : Nat) (ca : Option Addr) (cz : List Int) (cc : Nat) (a : Option Addr) (zs : List Int) (c : Nat) (w : World) (h : Ints w a zs) (hl : zs.length ≤ 1048576) (hbc : Boxes w Bc 84 #[.slice ca cz.length cc]) (hbp : Boxes w Bp 80 #[.int .i64 p]) (hz : Nums w ca p cz) (hcl : cz.length ≤ 1000) (hp : 2 ≤ p) (hp1 : p ≤ 31) (hx : Elems p zs) (he : Elems p cz) :
    Calls Tryd.prog 99 #[.slice a zs.length c, .func (.func 100) #[] #[.pointer (some ⟨Bc, 0, none⟩), .pointer (some ⟨Bp, 0, none⟩)]] w fun e w' => (∃ v, e = .returned v ∧ OwnSh w' w.heap.size v zs.length (dealt (fun x => hor p x cz.reverse) zs)) ∧ Below w.heap.size w w' := by
  have HI := Lib.hid h
  have HC := Lib.hid hbc
  have HP := Lib.hid hbp
  have HZ := Lib.hid hz
  have HX := Lib.hid hx
  have HE := Lib.hid he
  clear h hbc hbp hz hx he
  obtain ⟨i0, hi, hz0, hz1, hz2⟩ := info_parts Tryd.infoShare
  go_enter Tryd.func99, Tryd.ntmps99
  go_wp2_with (at_make; refine wpList_make_own _ rfl _ _ 42 rfl w.heap.size 91 i0 (.agg #[.int .i64 0, .int .i64 0]) 2 Tryd.underlying42 hi hz0 hz1 _ _ _ zs.length rfl rfl rfl (by rw [hz2]; omega) (by unfold maxLen; omega) (Nat.le_refl _) ?_; intro w4 hown hgrow)
  have hb4 := (Below.refl w.heap.size w).grown hgrow (Nat.le_refl _) (fun q hq => by cases hq)
  have HOW := Lib.hid (show OwnSh w4 w.heap.size (.slice (some ⟨w.heap.size, 0, none⟩) 0 zs.length) 0 (dealt (fun x => hor p x cz.reverse) (zs.take 0)) from hown)
  have HB4 := Lib.hid hb4
  clear hown hgrow hb4
  generalize (Value.slice (some ⟨w.heap.size, 0, none⟩) 0 zs.length) = r0 at *
  go_loopw [5, 7, 13] (fun q5 q7 i wr => ∃ (j : Nat), j ≤ zs.length ∧ i = .int .i64 j ∧ OwnSh wr w.heap.size q5 j (dealt (fun x => hor p x cz.reverse) (zs.take j)) ∧ Below w.heap.size w wr)
    (fun _ _ i _ => zs.length - (intOf i).toNat)
  case atStart => exact ⟨0, Nat.zero_le _, rfl, HOW.out, HB4.out⟩
  case round =>
    obtain ⟨j, hj, rfl, ho, hb⟩ := hrel
    have hsz := hb.size
    have HO := Lib.hid ho
    have HB := Lib.hid hb
    clear ho hb HOW HB4
    by_cases hltj : j < zs.length
    · rcases HI.out.below HB.out (Nat.le_refl _) with h | ⟨b2, o2, rfl, hc⟩
      · rw [h] at hltj; exact absurd hltj (Nat.not_lt_zero _)
      have hcj := hc j hltj
      have hj0 : (j : Int) < (zs.length : Int) := by omega
      have HT1 := Lib.hid (take_snoc1 zs hltj)
      have HXE := Lib.hid (HX.out j hltj)
      generalize nth zs j = x at *
      clear hc
      go_wp2_with fail
      refine (deal1_any p x Bc Bp ca cz cc _ (HC.out.step HB.out) (HP.out.step HB.out) (HZ.out.step HB.out) hcl hp hp1 HXE.out HE.out).mono ?_
      rintro e w5 ⟨rfl, hb5⟩
      have HO5 := Lib.hid (HO.out.step hb5)
      have HB5 := Lib.hid (HB.out.trans (hb5.mono hsz))
      have hsz5 := HB5.out.size
      clear hb5
      obtain ⟨y, hy⟩ : ∃ y, hor p x cz.reverse = y := ⟨_, rfl⟩
      rw [hy]
      have HY := Lib.hid hy
      clear hy
      go_wp2_with (at_builtin; refine wpList_append_own _ rfl _ _ 42 rfl w.heap.size 91 i0 (.agg #[.int .i64 0, .int .i64 0]) 2 16 Tryd.underlying42 hi hz0 hz1 hz2 rfl (by decide) _ _ _ rfl (World.ownsRow.alloc HO5.out _) ⟨w5.heap.size, 0, none⟩ 1 1 [.int .i64 x, .int .i64 y] rfl rfl (cell_two_new _ _ _ _) (by simp [Value.oneCell']) (by unfold maxLen; omega) (by omega) (by simp; omega) ?_; intro v' w6 hown6 hgrow6 _)
      have H6 := Lib.hid (show OwnSh w6 w.heap.size v' (j + 1) (dealt (fun x => hor p x cz.reverse) (zs.take (j + 1))) by
        rw [HT1.out, dealt_snoc]; unfold OwnSh; rw [vals_two]; simp only [HY.out]; exact hown6)
      have HB7 := Lib.hid ((HB5.out.alloc hsz5 (.cells #[.int .i64 x, .int .i64 y] 91)).grown hgrow6 (by simp; omega) (fun q hq => (row_lt HO5.out hq).1))
      clear hown6 hgrow6
      go_wp2
      go_roundw
      case rel => exact ⟨j + 1, by omega, by go_num, H6.out, HB7.out⟩
      case measure => simp [intOf]; omega
    · have HE2 := Lib.hid (show zs.take j = zs from List.take_of_length_le (by omega))
      have HJ := Lib.hid (show j = zs.length by omega)
      go_wp2
      go_ret
      have := HO.out
      rw [HE2.out, HJ.out] at this
      exact ⟨⟨_, rfl, this⟩, HB.out⟩

set_option maxRecDepth 100000 in
set_option maxHeartbeats 1000000 in
theorem deal_any (p : Int) (ca : Option Addr) (cz : List Int) (cc : Nat) (a : Option Addr) (zs : List Int) (c : Nat) (w : World) (h : Ints w a zs) (hl : zs.length ≤ 1048576) (hz : Nums w ca p cz) (hcl : cz.length ≤ 1000) (hp : 2 ≤ p) (hp1 : p ≤ 31) (hx : Elems p zs) (he : Elems p cz) :
    Calls Tryd.prog 67 #[.int .i64 p, .slice ca cz.length cc, .slice a zs.length c] w fun e w' => (∃ v, e = .returned v ∧ OwnSh w' w.heap.size v zs.length (dealt (fun x => hor p x cz.reverse) zs)) ∧ Below w.heap.size w w' := by
  have hmf : ∀ (fn : Fn) (first cap : Array Value) (w : World), (Instr.makeFunc fn first cap).run Tryd.prog w = .ok (.func fn first cap) w := fun _ _ _ _ => rfl
  have hb1 := ((Below.refl w.heap.size w).alloc (Nat.le_refl _) (.cells #[.int .i64 p] 80)).alloc (by simp) (.cells #[.slice ca cz.length cc] 84)
  have hbp : Boxes ((w.alloc (.cells #[.int .i64 p] 80)).alloc (.cells #[.slice ca cz.length cc] 84)) w.heap.size 80 #[.int .i64 p] := Boxes.step (World.alloc_heap_new w _) ((Below.refl _ _).alloc (Nat.le_refl _) _)
  have hbc : Boxes ((w.alloc (.cells #[.int .i64 p] 80)).alloc (.cells #[.slice ca cz.length cc] 84)) (w.heap.size + 1) 84 #[.slice ca cz.length cc] := by
    have : Boxes ((w.alloc (.cells #[.int .i64 p] 80)).alloc (.cells #[.slice ca cz.length cc] 84)) (w.alloc (.cells #[.int .i64 p] 80)).heap.size 84 #[.slice ca cz.length cc] := World.alloc_heap_new _ _
    simp only [World.size_alloc] at this
    exact this
  have HI := Lib.hid (h.step hb1)
  have HZ := Lib.hid (hz.step hb1)
  have HB1 := Lib.hid hb1
  have HC := Lib.hid hbc
  have HP := Lib.hid hbp
  clear h hz hb1 hbc hbp
  go_enter Tryd.func67, Tryd.ntmps67
  go_wp2_with fail
  refine (mapSh_any p (w.heap.size + 1) w.heap.size ca cz cc a zs c _ HI.out hl HC.out HP.out HZ.out hcl hp hp1 hx he).mono ?_
  rintro e w2 ⟨⟨v, rfl, ho⟩, hb⟩
  have HO := Lib.hid (ho.mono HB1.out.size)
  have HB := Lib.hid (HB1.out.trans (hb.mono HB1.out.size))
  clear ho hb
  go_wp2_with fail
  go_ret
  exact ⟨⟨v, rfl, HO.out⟩, HB.out⟩
end Go.Proofs.YtgndekojodpmkaaDoor

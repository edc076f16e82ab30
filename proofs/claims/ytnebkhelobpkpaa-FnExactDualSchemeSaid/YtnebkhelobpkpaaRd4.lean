/- takeColumn of the program. -/
import Derived.Test.YtnebkhelobpkpaaRd3
namespace Go.Proofs.Ytnebkhelobpkpaa
open Go.RowKit Go.Deep Go.Joins Go.ChangeShapes Go.WideShapes Go.ChangeAt
set_option linter.unusedVariables false

/-- What a column gives. -/
structure Took (w : World) (q base : Nat) (p : Int) (m n k : Nat) (va : Option Addr) (vc : Nat) (us : List Value) (f : Nat → Nat → Int) (F : List Nat) (w' : World) : Prop where
  red : ∃ f' fa' fc' F' x', RedAt w' q base p m n va vc us f' fa' fc' F' x' ∧ Elem p x' ∧ ((f' = f ∧ F' = F ∧ ∀ i, F.length ≤ i → i < m → f i k = 0) ∨ (F' = F ++ [k] ∧ F.length < m ∧ Piv p n m f f' F.length k ∧ ∀ i, i < m → ∀ j, j < n → Elem p (f' i j)))
  below : Below base w w'
  size : w.heap.size ≤ w'.heap.size

set_option maxRecDepth 100000 in
set_option maxHeartbeats 8000000 in
theorem takeColumn_any (q base m n k vc fc : Nat) (p x : Int) (va fa : Option Addr) (us : List Value) (f : Nat → Nat → Int) (F : List Nat) (w : World) (h : RedAt w q base p m n va vc us f fa fc F x) (hp : Prm p) (hk : k < n) (hm : m ≤ 1000) (hn : n ≤ 1000) (hf : ∀ r, r < m → ∀ j, j < n → Elem p (f r j)) (hx : Elem p x) (hF : F.length ≤ m) (hbq : base ≤ q) (hbw : base ≤ w.heap.size) :
    Calls Try.prog 133 #[.pointer (some ⟨q, 0, none⟩), .int .i64 k] w fun e w' => e = .returned (.tuple #[]) ∧ Took w q base p m n k va vc us f F w' := by
  obtain ⟨i0, ji, jz0, jz1, jz2⟩ := info_parts Try.infoIntT
  have hp0 := hp.1
  have hp1 := hp.2.1
  have RA := Lib.hid h
  have HFE := Lib.hid hf
  have HP := Lib.hid hp
  have HXE := Lib.hid hx
  obtain ⟨nx, hnx⟩ : ∃ nx, F.length = nx := ⟨_, rfl⟩
  have HNX := Lib.hid hnx
  rw [hnx] at hF
  have c0 := h.e0
  have c3 := h.e3
  have l0 := h.box.lt
  have hk0 : (k : Int) < (n : Int) := by omega
  rw [hnx] at c3
  clear h hf hx hp hnx
  go_enter Try.func133, Try.ntmps133
  go_wp2_with fail
  refine (firstWith_any va vc m n nx k base p us f w RA.out.grid hk hF hm hn).mono ?_
  rintro e w' ⟨h, rfl⟩
  rcases h with ⟨s, rfl, hs1, hs2, hs3, hs4⟩ | ⟨rfl, hz⟩
  case inr =>
    have HZ := Lib.hid hz
    clear hz
    go_wp2_with fail
    refine bodyPost_ret (v := .tuple #[]) (results_none Try.results133 _ _ _) rfl ?_
    exact ⟨rfl, ⟨f, fa, fc, F, x, RA.out, HXE.out, .inl ⟨rfl, rfl, fun i a b => HZ.out i (by have := HNX.out; omega) b⟩⟩, Below.refl _ _, Nat.le_refl _⟩
  have HS3 := Lib.hid hs3
  have HS4 := Lib.hid hs4
  clear hs3 hs4
  have hnm : nx < m := by omega
  have hnm0 : (nx : Int) < (m : Int) := by omega
  have hsm0 : (s : Int) < (m : Int) := by omega
  go_upto_if 30 with fail
  go_cut [] from 28 to 52 (fun wr => RedAt wr q base p m n va vc us (if s = nx then f else chTo f nx n (incRow p f s 1)) fa fc F x ∧ Below base w wr ∧ w.heap.size ≤ wr.heap.size)
  case first =>
    by_cases e : s = nx
    · subst e
      have e1 : ((s : Int) != (s : Int)) = false := by simp
      go_wp2_with fail
      go_meet
      exact ⟨by simpa using RA.out, Below.refl _ _, Nat.le_refl _⟩
    · have e0 : ¬ (s : Int) = (nx : Int) := by omega
      have e1 : ((s : Int) != (nx : Int)) = true := by simpa using e0
      obtain ⟨b, g, cap, rfl, hus, hg1, hbl, hgl, hcr, hcc⟩ := RA.out.row hs2 (by omega)
      have HUS := Lib.hid hus
      have HCC := Lib.hid hcc
      have c1 := RA.out.e1
      clear hus hcc
      go_wp2_with fail
      go_region_law (first
        | (go_simp; go_at_call 95; refine (number_any p 1 _).mono ?_; rintro e w8 ⟨rfl, hb8⟩; have HB8 := Lib.hid (show Below w.heap.size w w8 by first | exact hb8 | exact (drew_step w).trans hb8); have y0 := (RA.out.step HB8.out).e0; have yl := (RA.out.step HB8.out).box.lt; have yr := cell_step HB8.out hcr; have ybl := Nat.lt_of_lt_of_le hbl HB8.out.size)
        | (go_simp; go_at_call 142; refine (increased_any p 1 cap n (some ⟨g, 0, none⟩) _).mono ?_; rintro e w9 ⟨rfl, hb2, hb3, hb9⟩; (try simp only [World.size_drew] at hb2 hb3); have HB2 := Lib.hid hb2; have HB3 := Lib.hid hb3; have HB9 := Lib.hid (show Below w.heap.size w w9 from HB8.out.trans ((show Below w8.heap.size w8 w9 by first | exact hb9 | exact (drew_step w8).trans hb9).mono HB8.out.size)); have z0 := (RA.out.step HB9.out).e0; have zl := (RA.out.step HB9.out).box.lt)
        | (go_simp; go_at_call 141; refine (inc_row (c := 1) RA.out hp0 hp1 HFE.out hnm hs2 e hm hn ⟨by omega, by omega⟩ HUS.out HCC.out hbw (by first | exact HB9.out | exact HB9.out.trans ((drew_step w9).mono HB9.out.size)) HB8.out.size (Nat.le_trans HB8.out.size (Nat.le_succ _)) (by first | exact HB2.out | exact HB2.out.step (drew_step _)) (by first | exact HB3.out | exact HB3.out.step (drew_step _))).mono ?_; rintro e w10 ⟨rfl, ho10, hb10, hs10⟩))
      all_goals (
        go_wp2_with fail
        go_meet
        exact ⟨by rw [if_neg e]; exact ho10, hb10, hs10⟩)
  case rest =>
  obtain ⟨hr, hb, hsz⟩ := hcut
  obtain ⟨gf, hgf⟩ : ∃ gf, (if s = nx then f else chTo f nx n (incRow p f s 1)) = gf := ⟨_, rfl⟩
  rw [hgf] at hr
  obtain ⟨hpiv, hgk, hge⟩ := prog_piv HP.out HFE.out hk hs1 hs2 HS3.out HS4.out hgf.symm
  have HPI := Lib.hid hpiv
  have HGE := Lib.hid hge
  have RB := Lib.hid hr
  have HB1 := Lib.hid hb
  have HZ1 := Lib.hid hsz
  clear hpiv hge hr hb hsz hgf RA c0 c3 l0 HS3 HS4 hsm0 HFE
  obtain ⟨w1, hw1⟩ : ∃ W : World, W = wc := ⟨_, rfl⟩
  subst hw1
  have hbw1 : base ≤ w1.heap.size := Nat.le_trans hbw HZ1.out
  obtain ⟨y, hy⟩ : ∃ y, gf nx k = y := ⟨_, rfl⟩
  have HY := Lib.hid hy
  obtain ⟨b, g, cap, rfl, hus, hg1, hbl, hgl, hcr, hcc⟩ := RB.out.row hnm (by omega)
  obtain ⟨d0, d1⟩ := hcc k hk
  rw [hy] at d1
  have c0 := RB.out.e0
  have l0 := RB.out.box.lt
  have HGK := Lib.hid (show Elem p y by rw [← hy]; exact HGE.out nx hnm k hk)
  clear hcc hus hy
  go_upto_region 6 with fail
  have hx5 : Boxes (w1.alloc (.cells #[.int .i64 p, .int .i64 y] 126)) w1.heap.size 126 #[.int .i64 p, .int .i64 y] := World.alloc_heap_new _ _
  have hb5 := al_b w1 (.cells #[.int .i64 p, .int .i64 y] 126)
  generalize w1.alloc (.cells #[.int .i64 p, .int .i64 y] 126) = w5 at *
  have HX5 := Lib.hid hx5
  have HB5 := Lib.hid hb5
  clear hx5 hb5 d0 d1 hcr c0 l0
  go_cut [] from 64 to 73 (fun wr => RedAt wr q base p m n (some ⟨b, 0, none⟩) vc us (chTo gf nx n (mulRow p (Rd.inv p y))) fa fc F x ∧ Boxes wr w1.heap.size 126 #[.int .i64 p, .int .i64 y] ∧ Below base w1 wr ∧ w1.heap.size ≤ wr.heap.size)
  case first =>
    have c0 := (RB.out.step HB5.out).e0
    have l0 := (RB.out.step HB5.out).box.lt
    have a0 := HX5.out.c0
    have a1 := HX5.out.c1
    have l1 := HX5.out.lt
    go_region_law (first
      | (go_simp; go_at_call 164; refine (inverse_any p y _ hp0 hp1 HGK.out).mono ?_; rintro e w8 ⟨rfl, hb8⟩; have HB8 := Lib.hid (show Below w5.heap.size w5 w8 by first | exact hb8 | exact (drew_step w5).trans hb8); have HB8b := Lib.hid (HB5.out.trans (HB8.out.mono HB5.out.size)); have y0 := (RB.out.step HB8b.out).e0; have yl := (RB.out.step HB8b.out).box.lt)
      | (go_simp; go_at_call 163; refine (multiplied_any p _ _).mono ?_; rintro e w9 ⟨rfl, hb3, hb9⟩; (try simp only [World.size_drew] at hb3); have HB3 := Lib.hid hb3; have HB9a := Lib.hid (show Below w8.heap.size w8 w9 by first | exact hb9 | exact (drew_step w8).trans hb9); have HB9 := Lib.hid (HB8b.out.trans (HB9a.out.mono HB8b.out.size)); have HX9 := Lib.hid ((HX5.out.step HB8.out).step HB9a.out); have z0 := (RB.out.step HB9.out).e0; have zl := (RB.out.step HB9.out).box.lt)
      | (go_simp; go_at_call 141; refine (mul_row RB.out hp0 hp1 HGE.out hnm hm hn (powOf_elem hp0 y (p - 2).toNat) hbw1 (by first | exact HB9.out | exact HB9.out.trans ((drew_step w9).mono HB9.out.size)) HB8b.out.size (by first | exact HB3.out | exact HB3.out.step (drew_step _))).mono ?_; rintro e w10 ⟨rfl, ho10, hb10, hs10, hk10⟩; have HX10 := Lib.hid (hk10 _ _ _ (Nat.le_refl _) (by first | exact HX9.out | exact HX9.out.step (drew_step _)))))
    all_goals (
      go_wp2_with fail
      go_meet
      exact ⟨ho10, HX10.out, hb10, hs10⟩)
  case rest =>
  obtain ⟨hr, hx, hb, hsz⟩ := hcut
  have RC := Lib.hid hr
  have HX6 := Lib.hid hx
  have HB6 := Lib.hid (HB1.out.trans hb)
  have HZ6 := Lib.hid (Nat.le_trans HZ1.out hsz)
  clear hr hx hb hsz RB HX5 HB5 HB1 HZ1 hbw1
  obtain ⟨w6, hw6⟩ : ∃ W : World, W = wc := ⟨_, rfl⟩
  subst hw6
  have HFE := Lib.hid (chTo_elem HGE.out (mul_elem hp0 (Rd.inv p y)) nx n)
  rw [← HY.out] at HFE RC
  generalize hb5 : w1.heap.size = B5 at *
  clear hb5
  obtain ⟨h2, hh2⟩ : ∃ h2, chTo gf nx n (mulRow p (Rd.inv p (gf nx k))) = h2 := ⟨_, rfl⟩
  rw [hh2] at RC HFE
  have HPI2 := Lib.hid (show Piv p n m f (clrTo p h2 n nx k m) nx k by rw [← hh2]; exact HPI.out)
  clear HPI hh2 HGE
  go_upto_region 7 with fail
  go_cut [] from 74 to 82 (fun wr => RedAt wr q base p m n (some ⟨b, 0, none⟩) vc us h2 fa fc F (x * y % p) ∧ Below base w wr ∧ w.heap.size ≤ wr.heap.size)
  case first =>
    have c4 := RC.out.e4
    have c5 := RC.out.e5
    have l0 := RC.out.box.lt
    have a0 := HX6.out.c0
    have a1 := HX6.out.c1
    have l1 := HX6.out.lt
    go_region_law (go_simp; go_at_call 165; refine (times_any p x y _ hp0 hp1 HXE.out HGK.out).mono ?_; rintro e w8 ⟨rfl, hb8⟩; have HB8 := Lib.hid (show Below w6.heap.size w6 w8 by first | exact hb8 | exact (drew_step w6).trans hb8); have yl := (RC.out.step HB8.out).box.lt; have f4 := (RC.out.step HB8.out).box.frozen 4; have f5 := (RC.out.step HB8.out).box.frozen 5; have y4 := (RC.out.step HB8.out).e4; have y5 := (RC.out.step HB8.out).e5)
    all_goals (
      go_wp2_with fail
      go_meet
      refine ⟨(RC.out.step HB8.out).factor _, ?_, ?_⟩
      · exact ((HB6.out.trans (HB8.out.mono (by have := HZ6.out; omega))).setCell (p := ⟨q, 4, none⟩) hbq _).setCell (p := ⟨q, 5, none⟩) hbq _
      · have := HB8.out.size
        have := HZ6.out
        simp only [World.size_setCell]
        omega)
  case rest =>
  obtain ⟨hr, hb, hsz⟩ := hcut
  have RD := Lib.hid hr
  have HB7 := Lib.hid hb
  have HZ7 := Lib.hid hsz
  clear hr hb hsz RC HX6 HB6 HZ6
  obtain ⟨w7, hw7⟩ : ∃ W : World, W = wc := ⟨_, rfl⟩
  subst hw7
  have c0 := RD.out.e0
  have l0 := RD.out.box.lt
  go_wp2_with fail
  go_loopw [8, 9, 89] (fun q8 q9 qi wr => ∃ (i : Nat), i ≤ m ∧ qi = .int .i64 i ∧ RedAt wr q base p m n (some ⟨b, 0, none⟩) vc us (clrTo p h2 n nx k i) fa fc F (x * y % p) ∧ Below base w wr ∧ w.heap.size ≤ wr.heap.size)
    (fun _ _ qi _ => m - (intOf qi).toNat)
  case atStart => exact ⟨0, Nat.zero_le _, rfl, by rw [clr_zero]; exact RD.out, HB7.out, HZ7.out⟩
  case round =>
    obtain ⟨i, hi, rfl, hr, hb, hsz⟩ := hrel
    have RE := Lib.hid hr
    have HBE := Lib.hid hb
    have HZE := Lib.hid hsz
    have hbwr : base ≤ wr.heap.size := Nat.le_trans hbw hsz
    clear hr hb hsz RD HB7 HZ7 c0 l0
    by_cases hlt : i < m
    · obtain ⟨b', gi, capi, hvb, hui, hgi, hbi, hgil, hcri, hcci⟩ := RE.out.row hlt (by omega)
      cases hvb
      have hi0 : (i : Int) < (m : Int) := by omega
      by_cases e : i = nx
      · have HEQ := Lib.hid (show clrTo p h2 n nx k (i + 1) = clrTo p h2 n nx k i by rw [e]; exact clr_same _ _ _ _ _)
        clear hcci hui
        subst e
        have e1 : ((i : Int) != (i : Int)) = false := by simp
        go_wp2_with fail
        go_roundw
        case rel => exact ⟨i + 1, by omega, by go_num, by rw [HEQ.out]; exact RE.out, HBE.out, HZE.out⟩
        case measure => simp [intOf]; omega
      · have e1 : ((i : Int) != (nx : Int)) = true := by simp; omega
        obtain ⟨b2, gn, capn, hvb2, hun, hgn, hbn, hgnl, hcrn, hccn⟩ := RE.out.row hnm (by omega)
        cases hvb2
        obtain ⟨d0, d1⟩ := hcci k hk
        rw [clr_own] at d1
        have HCE := Lib.hid (clr_elem hp0 HFE.out nx k i)
        have HZL := Lib.hid (HFE.out i hlt k hk)
        obtain ⟨zv, hzv⟩ : ∃ zv, h2 i k = zv := ⟨_, rfl⟩
        rw [hzv] at d1 HZL
        have HZV := Lib.hid hzv
        obtain ⟨nv, hnv⟩ : ∃ nv, (p - zv) % p = nv := ⟨_, rfl⟩
        have HNV := Lib.hid hnv
        have HNE := Lib.hid (show Elem p nv by rw [← hnv]; exact mod_elem hp0 _)
        have HUN := Lib.hid hun
        have HCC := Lib.hid hccn
        have c0 := RE.out.e0
        have l0 := RE.out.box.lt
        clear hcci hui hun hccn hzv hnv
        go_wp2_with fail
        go_region_law (first
          | (go_simp; go_at_call 96; refine (negative_any p zv _ hp0 hp1 HZL.out).mono ?_; rw [HNV.out]; rintro e w8 ⟨rfl, hb8⟩; have HB8 := Lib.hid (show Below wr.heap.size wr w8 by first | exact hb8 | exact (drew_step wr).trans hb8); have y0 := (RE.out.step HB8.out).e0; have yl := (RE.out.step HB8.out).box.lt; have yr := cell_step HB8.out hcrn; have ybl := Nat.lt_of_lt_of_le hbn HB8.out.size)
          | (go_simp; go_at_call 142; refine (increased_any p nv capn n (some ⟨gn, 0, none⟩) _).mono ?_; rintro e w9 ⟨rfl, hb2, hb3, hb9⟩; (try simp only [World.size_drew] at hb2 hb3); have HB2 := Lib.hid hb2; have HB3 := Lib.hid hb3; have HB9 := Lib.hid (show Below wr.heap.size wr w9 from HB8.out.trans ((show Below w8.heap.size w8 w9 by first | exact hb9 | exact (drew_step w8).trans hb9).mono HB8.out.size)); have z0 := (RE.out.step HB9.out).e0; have zl := (RE.out.step HB9.out).box.lt)
          | (go_simp; go_at_call 141; refine (inc_row (c := nv) RE.out hp0 hp1 HCE.out hlt hnm (fun e2 => e e2.symm) hm hn HNE.out HUN.out HCC.out hbwr (by first | exact HB9.out | exact HB9.out.trans ((drew_step w9).mono HB9.out.size)) HB8.out.size (Nat.le_trans HB8.out.size (Nat.le_succ _)) (by first | exact HB2.out | exact HB2.out.step (drew_step _)) (by first | exact HB3.out | exact HB3.out.step (drew_step _))).mono ?_; rintro e w10 ⟨rfl, ho10, hb10, hs10⟩))
        all_goals (
          have HR10 := Lib.hid (show RedAt w10 q base p m n (some ⟨b, 0, none⟩) vc us (clrTo p h2 n nx k (i + 1)) fa fc F (x * y % p) by rw [← clr_step _ _ _ _ _ _ e, HZV.out, HNV.out]; exact ho10)
          have HB10 := Lib.hid hb10
          have HS10 := Lib.hid hs10
          clear ho10 hb10 hs10
          go_wp2_with fail
          go_roundw
          case rel => exact ⟨i + 1, by omega, by go_num, HR10.out, HBE.out.trans HB10.out, Nat.le_trans HZE.out HS10.out⟩
          case measure => simp [intOf]; omega)
    · have hE : i = m := by omega
      subst hE
      have hfl : F.length ≤ 1000 := by have := HNX.out; omega
      have c3 := RE.out.e3
      have l0 := RE.out.box.lt
      go_wp2_with (at_builtin; refine wpList_append_own _ rfl _ _ 124 rfl base 3 i0 (.int .i64 0) 1 8 Try.underlying124 ji jz0 jz1 jz2 rfl (by decide) _ _ _ rfl (World.ownsRow.alloc RE.out.firsts _) ⟨wr.heap.size, 0, none⟩ 1 1 [.int .i64 k] rfl rfl (cell_one_new _ _ _) (by simp [Value.oneCell']) (by unfold maxLen; omega) (by omega) (by simp; omega) ?_; intro v' w11 hown1 hgrow1 _; obtain ⟨fa', fc', rfl⟩ := rowForm hown1; have hbx' := KeepT.grown (t := 128) (World.ownsRow.alloc RE.out.firsts _) hgrow1 (by decide) _ _ (RE.out.box.step (al_b wr _)); have f3 := hbx'.frozen 3; have y3 : w11.cell? ⟨q, 3, none⟩ = some (.slice fa F.length fc) := (by rw [hbx'.cell]; rfl); have fl := hbx'.lt)
      go_wp2_with fail
      go_end0
      obtain ⟨fa2, fc2, hv, hadd⟩ := (RE.out.step (al_b wr _)).added hgrow1 hown1
      cases hv
      refine ⟨rfl, ⟨clrTo p h2 n nx k i, fa', fc', F ++ [k], x * y % p, hadd, mod_elem hp0 _, .inr ⟨rfl, by rw [HNX.out]; exact hnm, by rw [HNX.out]; exact HPI2.out, clr_elem hp0 HFE.out nx k i⟩⟩, ?_, ?_⟩
      · exact ((HBE.out.trans ((al_b wr _).mono hbwr)).grown hgrow1 (by simp; omega) (fun q hq => (row_lt RE.out.firsts hq).1)).setCell (p := ⟨q, 3, none⟩) hbq _
      · have := hgrow1.size
        have := HZE.out
        simp only [World.size_alloc, World.size_setCell] at *
        omega
end Go.Proofs.Ytnebkhelobpkpaa

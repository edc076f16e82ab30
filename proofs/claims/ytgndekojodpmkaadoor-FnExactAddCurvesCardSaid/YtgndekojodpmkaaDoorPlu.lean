/- plus of the program's curves: Clone of elements, the sum. -/
import Derived.Test.YtgndekojodpmkaaDoorSum
import Derived.Lib.SliceRun
import Derived.Deep.RegionLaw
namespace Go.Proofs.YtgndekojodpmkaaDoor
open Go.RowKit Go.Deep Go.Joins Go.ChangeShapes Go.WideShapes Go.ChangeAt
set_option linter.unusedVariables false

theorem numCells_set' (p : Int) (zs : List Int) (j : Nat) (y : Int) : ((numCells p zs).set (j * 2) (.int .i64 p)).set (j * 2 + 1) (.int .i64 y) = numCells p (zs.set j y) := by
  induction zs generalizing j with
  | nil => simp [numCells]
  | cons x zs ih =>
    cases j with
    | zero => simp [numCells]
    | succ j =>
      rw [show (j + 1) * 2 = j * 2 + 1 + 1 by omega, show j * 2 + 1 + 1 + 1 = (j * 2 + 1) + 1 + 1 by omega]
      simp only [numCells, List.set_cons_succ, ih]
theorem OwnN.put' {w : World} {base g n cap : Nat} {p : Int} {zs : List Int} (h : OwnN w base p (.slice (some ⟨g, 0, none⟩) n cap) zs) (j : Nat) (y : Int) :
    OwnN ((w.setCell ⟨g, j * 2, none⟩ (.int .i64 p)).setCell ⟨g, j * 2 + 1, none⟩ (.int .i64 y)) base p (.slice (some ⟨g, 0, none⟩) n cap) (zs.set j y) := by
  obtain ⟨a', c', e⟩ := rowForm h
  cases e
  have h1 := (World.ownsRow.stored h (j * 2) (.int .i64 p)).1
  have h2 := (World.ownsRow.stored h1 (j * 2 + 1) (.int .i64 y)).1
  unfold OwnN
  rw [← numCells_set', List.length_set]
  exact h2
theorem numCells_one (p : Int) (zs : List Int) : ∀ u ∈ numCells p zs, u.oneCell' = true := by
  induction zs with
  | nil => intro u hu; cases hu
  | cons z zs ih =>
    intro u hu
    simp only [numCells, List.mem_cons] at hu
    rcases hu with rfl | rfl | hu
    · rfl
    · rfl
    · exact ih u hu
theorem nums_news {W : World} {ad : Addr} {p : Int} {zs : List Int} (h : Nums W (some ad) p zs) : ∀ j u, (numCells p zs)[j]? = some u → W.cell? (ad.add j) = some u := by
  intro j u hj
  have hlt := (List.getElem?_eq_some_iff.1 hj).1
  rw [numCells_len] at hlt
  rcases h with h | ⟨b, e, hc⟩
  · rw [h] at hlt; simp at hlt
  · cases e
    have hi : j / 2 < zs.length := by omega
    obtain ⟨h0, h1⟩ := hc (j / 2) hi
    rw [add_plain, Nat.zero_add]
    rcases Nat.mod_two_eq_zero_or_one j with hm | hm
    · have ej : j / 2 * 2 = j := by omega
      have hg := numCells_get0 p zs hi
      rw [ej] at hg h0
      rw [hg] at hj
      rw [h0]; exact hj
    · have ej : j / 2 * 2 + 1 = j := by omega
      have hg := numCells_get1 p zs hi
      rw [ej] at hg h1
      rw [hg] at hj
      rw [h1]; exact hj

set_option maxRecDepth 100000 in
set_option maxHeartbeats 400000 in
theorem cloneN_any (p : Int) (a : Option Addr) (zs : List Int) (c : Nat) (w : World) (h : Nums w a p zs) (hl : zs.length ≤ 1048576) :
    Calls Tryd.prog 94 #[.slice a zs.length c] w fun e w' => (∃ v, e = .returned v ∧ OwnN w' w.heap.size p v zs) ∧ Below w.heap.size w w' := by
  obtain ⟨i0, hi, hz0, hz1, hz2⟩ := info_parts Tryd.infoNum
  have q22 : ∀ (w : World) (a : Option Addr) (n c n' c' : Nat), (binOp .eql 84 (.slice a n c) (.slice none n' c')).run Tryd.prog w = .ok (.bool a.isNone) w := fun w a n c n' c' => Lib.run_eql_slice_nil w _ _ a n c n' c' Tryd.underlying84
  cases a with
  | none =>
    have hz : zs = [] := by
      rcases h with h | ⟨b, e, _⟩
      · exact h
      · cases e
    subst hz
    go_enter Tryd.func94, Tryd.ntmps94
    go_wp2_with fail
    go_ret
    exact ⟨⟨_, rfl, OwnN.nil _ _ _⟩, Below.refl _ _⟩
  | some ad =>
    have hown : OwnN (w.alloc (.cells #[] 82)) w.heap.size p (.slice (some ⟨w.heap.size, 0, none⟩) 0 0) [] := World.ownsRow_made w #[] 0 (Nat.le_refl _) (by unfold maxLen; omega) rfl
    have HO := Lib.hid hown
    have hb := (Below.refl w.heap.size w).alloc (Nat.le_refl _) (.cells #[] 82)
    have HB := Lib.hid hb
    have hnews := nums_news (h.step hb)
    clear hown hb
    go_enter Tryd.func94, Tryd.ntmps94
    go_wp2_with (at_builtin; refine wpList_append_own _ rfl _ _ 84 rfl w.heap.size 82 i0 (.agg #[.int .i64 0, .int .i64 0]) 2 16 Tryd.underlying84 hi hz0 hz1 hz2 rfl (by decide) _ 0 [] rfl HO.out ad zs.length c (numCells p zs) rfl (numCells_len p zs) hnews (numCells_one p zs) (by unfold maxLen; omega) (by omega) (by simp) ?_; intro v' w1 hown1 hgrow1 _)
    go_wp2_with fail
    go_ret
    exact ⟨⟨_, rfl, by simpa [OwnN] using hown1⟩, HB.out.grown hgrow1 (by simp) (fun q hq => (row_lt HO.out hq).1)⟩

theorem addTo_keep (p f : Int) (xs ys : List Int) {k : Nat} (h : k < xs.length) : nth (addTo p f xs ys k) k = nth xs k := by
  rw [addTo_nth _ _ _ _ (by omega), if_neg (by omega)]
theorem addTo_put (p : Int) (xs ys : List Int) {k : Nat} (h : k < xs.length) : (addTo p 1 xs ys k).set k ((nth xs k + nth ys k) % p) = addTo p 1 xs ys (k + 1) := by
  have h1 := addTo_succ p 1 xs ys k
  rw [Int.mul_one] at h1
  rw [← h1, addRoom, if_neg (by rw [addTo_len]; omega)]
theorem addTo_comm {p : Int} {xs ys : List Int} (hx : Elems p xs) (hy : Elems p ys) (h : xs.length ≤ ys.length) : addTo p 1 ys xs xs.length = addTo p 1 xs ys ys.length := by
  refine ext_nth (by rw [addTo_len, addTo_len]; omega) fun i hi => ?_
  rw [addTo_len] at hi
  rw [addTo_nth _ _ _ _ hi, addTo_nth _ _ _ _ (by omega), if_pos (show i < ys.length by omega)]
  by_cases h2 : i < xs.length
  · rw [if_pos h2, Int.mul_one, Int.mul_one, Int.add_comm]
  · rw [if_neg h2, nth_out (show xs.length ≤ i by omega), Int.mul_one, Int.zero_add]
    have := hy i (by omega)
    exact (Int.emod_eq_of_lt this.1 this.2).symm

set_option maxRecDepth 100000 in
set_option maxHeartbeats 2000000 in
theorem plus_le (p : Int) (a1 a2 : Option Addr) (xs ys : List Int) (c1 c2 : Nat) (w : World) (h1 : Nums w a1 p xs) (h2 : Nums w a2 p ys) (hl1 : xs.length ≤ 1000) (hle : ys.length ≤ xs.length) (hp : 2 ≤ p) (hp1 : p ≤ 31) (he1 : Elems p xs) (he2 : Elems p ys) :
    Calls Tryd.prog 62 #[.slice a1 xs.length c1, .slice a2 ys.length c2] w (GivesN w p (cut (addTo p 1 xs ys ys.length))) := by
  have HI := Lib.hid h2
  have H1 := Lib.hid h1
  clear h1 h2
  have tl : ¬ (xs.length : Int) < (ys.length : Int) := by omega
  go_enter Tryd.func62, Tryd.ntmps62
  go_wp2_with fail
  refine (cloneN_any p a1 xs c1 w H1.out (by omega)).mono ?_
  rintro e w2 ⟨⟨v2, rfl, ho2⟩, hb2⟩
  obtain ⟨ga, cap, hv⟩ := rowForm ho2
  subst hv
  have HO2 := Lib.hid (show OwnN w2 w.heap.size p (.slice ga xs.length cap) (addTo p 1 xs ys 0) by rw [addTo_zero]; exact ho2)
  have HB2 := Lib.hid hb2
  clear ho2 hb2
  go_wp2_with fail
  go_loopw [6, 7, 20] (fun q6 q7 q wr => ∃ k : Nat, k ≤ ys.length ∧ q = .int .i64 k ∧ OwnN wr w.heap.size p (.slice ga xs.length cap) (addTo p 1 xs ys k) ∧ Below w.heap.size w wr)
    (fun _ _ q _ => ys.length - (intOf q).toNat)
  case atStart => exact ⟨0, Nat.zero_le _, rfl, HO2.out, HB2.out⟩
  case round =>
    obtain ⟨k, hk, rfl, ho, hb⟩ := hrel
    have HO := Lib.hid ho
    have HB := Lib.hid hb
    have hsz := hb.size
    clear HO2 HB2
    by_cases hlt : k < ys.length
    · have hkx : k < xs.length := by omega
      have hk0 : (k : Int) < (ys.length : Int) := by omega
      have hk1 : (k : Int) < (xs.length : Int) := by omega
      rcases HI.out with h | ⟨b, rfl, hcc⟩
      · rw [h] at hlt; exact absurd hlt (Nat.not_lt_zero _)
      obtain ⟨e0, e1⟩ := hcc k hlt
      have hbl := World.block_lt_of_cell? _ _ e0
      simp only at hbl
      have e0 := cell_step hb e0
      have e1 := cell_step hb e1
      have hln : (addTo p 1 xs ys k).length = xs.length := by rw [addTo_len]; omega
      obtain ⟨a', c', hv, hN⟩ := ho.nums
      rw [hln] at hv
      cases hv
      rcases hN with h | ⟨g, rfl, hgc⟩
      · rw [h] at hln; simp at hln; omega
      obtain ⟨d0, d1⟩ := hgc k (by omega)
      rw [addTo_keep p 1 xs ys hkx] at d1
      have hgl := World.block_lt_of_cell? _ _ d0
      simp only at hgl
      have hgb := (row_lt ho (b := g) rfl).1
      have ho' : OwnN wr w.heap.size p (.slice (some ⟨g, 0, none⟩) (addTo p 1 xs ys k).length cap) (addTo p 1 xs ys k) := by rw [hln]; exact ho
      have f0 := World.ownsRow.frozenAt ho' (k * 2)
      have f1 := World.ownsRow.frozenAt ho' (k * 2 + 1)
      have HX := Lib.hid (he1 k hkx)
      have HY := Lib.hid (he2 k hlt)
      have HP := Lib.hid (addTo_put p xs ys hkx)
      clear hcc hgc ho' ho hb hln
      generalize nth xs k = x at *
      generalize nth ys k = y at *
      have hl1 : b < wr.heap.size + 1 := by omega
      have hl2 : g < wr.heap.size + 1 := by omega
      have hl3 : g ≠ wr.heap.size := by omega
      go_wp2_with fail
      have HA := Lib.hid (show Below wr.heap.size wr (wr.alloc (.cells #[.int .i64 p, .int .i64 y] 82)).drew from ((Below.refl _ _).alloc (Nat.le_refl _) _).drew)
      go_region_law (go_simp; refine (plus_any p x y _ hp hp1 HX.out HY.out).mono ?_; rintro e w8 ⟨rfl, hb8⟩; have HB8 := Lib.hid (HA.out.trans (hb8.mono HA.out.size)); have hs8 : wr.heap.size ≤ w8.heap.size := HB8.out.size; have z1 := cell_step HB8.out d0; have z2 := cell_step HB8.out d1; have zf0 := (HB8.out.frozen (p := ⟨g, k * 2, none⟩) hgl).trans f0; have zf1 := (HB8.out.frozen (p := ⟨g, k * 2 + 1, none⟩) hgl).trans f1; have zl2 := Nat.lt_of_lt_of_le hgl hs8; have zf2 : k * 2 + 1 ≠ k * 2 := (by omega))
      all_goals (
        have HO6 := Lib.hid (show OwnN ((w8.setCell ⟨g, k * 2, none⟩ (.int .i64 p)).setCell ⟨g, k * 2 + 1, none⟩ (.int .i64 ((x + y) % p))) w.heap.size p (.slice (some ⟨g, 0, none⟩) xs.length cap) (addTo p 1 xs ys (k + 1)) by
          have := (HO.out.step HB8.out).put' k ((x + y) % p)
          rw [HP.out] at this
          exact this)
        have HB6 := Lib.hid (((HB.out.trans (HB8.out.mono hsz)).setCell (p := ⟨g, k * 2, none⟩) hgb (.int .i64 p)).setCell (p := ⟨g, k * 2 + 1, none⟩) hgb (.int .i64 ((x + y) % p)))
        generalize (w8.setCell ⟨g, k * 2, none⟩ (.int .i64 p)).setCell ⟨g, k * 2 + 1, none⟩ (.int .i64 ((x + y) % p)) = w6 at *
        go_wp2_with fail
        go_roundw
        case rel => exact ⟨k + 1, by omega, by go_num, HO6.out, HB6.out⟩
        case measure => simp [intOf]; omega)
    · have HE := Lib.hid (show k = ys.length by omega)
      have hln : (addTo p 1 xs ys k).length = xs.length := by rw [addTo_len]; omega
      obtain ⟨a', c', hv, hN, hcc, -⟩ := ho.numsC
      rw [hln] at hv
      cases hv
      have ht := trimmed_any p ga (addTo p 1 xs ys k) cap wr hN (by omega) hcc
      rw [hln] at ht
      have HT := Lib.hid ht
      have HN := Lib.hid hN
      clear ht hN ho hb hln hcc
      go_wp2_with fail
      refine HT.out.mono ?_
      rintro e w8 ⟨rfl, rfl⟩
      go_wp2_with fail
      go_ret
      refine ⟨⟨ga, cap, by rw [HE.out]; rfl, ?_⟩, HB.out⟩
      rw [← HE.out]
      exact HN.out.take _
set_option maxRecDepth 100000 in
theorem cplus_any (p : Int) (a1 a2 : Option Addr) (xs ys : List Int) (c1 c2 : Nat) (w : World) (h1 : Nums w a1 p xs) (h2 : Nums w a2 p ys) (hl1 : xs.length ≤ 1000) (hl2 : ys.length ≤ 1000) (hp : 2 ≤ p) (hp1 : p ≤ 31) (he1 : Elems p xs) (he2 : Elems p ys) :
    Calls Tryd.prog 62 #[.slice a1 xs.length c1, .slice a2 ys.length c2] w (GivesN w p (cut (addTo p 1 xs ys ys.length))) := by
  by_cases hle : ys.length ≤ xs.length
  · exact plus_le p a1 a2 xs ys c1 c2 w h1 h2 hl1 hle hp hp1 he1 he2
  have tl : (xs.length : Int) < (ys.length : Int) := by omega
  have HG := Lib.hid (plus_le p a2 a1 ys xs c2 c1 w h2 h1 hl2 (by omega) hp hp1 he2 he1)
  have HC := Lib.hid (addTo_comm he1 he2 (by omega))
  clear h1 h2 he1 he2
  go_enter Tryd.func62, Tryd.ntmps62
  go_wp2_with fail
  refine HG.out.mono ?_
  rintro e w2 ⟨⟨a', c', rfl, hN⟩, hb⟩
  have HN := Lib.hid hN
  clear hN
  go_wp2_with fail
  go_ret
  rw [← HC.out]
  exact ⟨⟨a', c', rfl, HN.out⟩, hb⟩
end Go.Proofs.YtgndekojodpmkaaDoor

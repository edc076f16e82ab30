/- kernel of the program. -/
import Derived.Test.YtpifgapogbbcnaaKe0
import Derived.Test.YtpifgapogbbcnaaRd5
import Derived.Deep.RegionHeld3
namespace Go.Proofs.Ytpifgapogbbcnaa
open Go.RowKit Go.Deep Go.Joins Go.ChangeShapes Go.WideShapes Go.ChangeAt
set_option linter.unusedVariables false

set_option maxRecDepth 100000 in
set_option maxHeartbeats 1000000 in
theorem indexI_any (fa : Option Addr) (fc : Nat) (F : List Nat) (k base : Nat) (w : World) (h : w.ownsRow base 3 1 (.slice fa F.length fc) F.length (cols F)) (hl : F.length ≤ 1000) :
    Calls Try.prog 54 #[.slice fa F.length fc, .int .i64 (k : Int)] w fun e w' => (∃ r : Int, e = .returned (.int .i64 r) ∧ (0 ≤ r ↔ k ∈ F)) ∧ w = w' := by
  have H := Lib.hid h
  clear h
  go_enter Try.func54, Try.ntmps54
  go_wp2
  go_loop [5, 8] (fun n i => ∃ j : Nat, i = .int .i64 j ∧ j ≤ F.length ∧ ∀ q, q < j → nthN F q ≠ k)
    (fun _ i => F.length - (intOf i).toNat)
  case atStart => exact ⟨0, rfl, Nat.zero_le _, fun j hj => absurd hj (Nat.not_lt_zero _)⟩
  case round =>
    obtain ⟨j, rfl, hj, hno⟩ := hrel
    have HN := Lib.hid hno
    clear hno
    by_cases hlt : j < F.length
    · obtain ⟨fb, fcap, hfe, -, -⟩ := H.out.form (by omega)
      cases hfe
      have hfk := World.ownsRow.cellAt H.out j (by omega)
      rw [cols_at hlt] at hfk
      have hi0 : (j : Int) < (F.length : Int) := by omega
      obtain ⟨r, hr⟩ : ∃ r, nthN F j = r := ⟨_, rfl⟩
      rw [hr] at hfk
      have HR := Lib.hid hr
      clear hr
      by_cases he : k = r
      · subst he
        have HM := Lib.hid (show k ∈ F by rw [← HR.out]; exact nthN_mem hlt)
        go_wp2
        go_ret
        exact ⟨⟨(j : Int), rfl, ⟨fun _ => HM.out, fun _ => by omega⟩⟩, rfl⟩
      · have e1 : ¬ (k : Int) = (r : Int) := by omega
        have HE := Lib.hid he
        clear he
        go_wp2
        go_round
        case rel => exact ⟨j + 1, by go_num, by omega, fun q hq => by
          by_cases e : q = j
          · subst e; rw [HR.out]; exact fun q => HE.out q.symm
          · exact HN.out q (by omega)⟩
        case measure => simp [intOf]; omega
    · have HE := Lib.hid (show k ∉ F from fun hm => by
        obtain ⟨i, hi, hv⟩ := List.getElem_of_mem hm
        exact HN.out i (by omega) (by rw [nthN_lt hi]; exact hv))
      have hi0 : ¬ (j : Int) < (F.length : Int) := by omega
      go_wp2
      go_ret
      exact ⟨⟨-1, rfl, ⟨fun q => absurd q (by omega), fun q => absurd q HE.out⟩⟩, rfl⟩
set_option maxRecDepth 100000 in
theorem containsI_any (fa : Option Addr) (fc : Nat) (F : List Nat) (k base : Nat) (w : World) (h : w.ownsRow base 3 1 (.slice fa F.length fc) F.length (cols F)) (hl : F.length ≤ 1000) :
    Calls Try.prog 38 #[.slice fa F.length fc, .int .i64 (k : Int)] w fun e w' => e = .returned (.bool (tell (k ∈ F))) ∧ w = w' := by
  go_enter Try.func38, Try.ntmps38
  go_wp2_with fail
  refine (indexI_any fa fc F k base w h hl).mono ?_
  rintro e w' ⟨⟨r, rfl, hr⟩, rfl⟩
  by_cases hm : k ∈ F
  · have h0 : 0 ≤ r := hr.2 hm
    have h1 : ¬ r < 0 := by omega
    have HT := Lib.hid (tell_true hm)
    clear hr hm
    go_wp2_with fail
    go_ret
    exact ⟨ret_bool HT.out.symm, rfl⟩
  · have h0 : ¬ 0 ≤ r := fun q => hm (hr.1 q)
    have h1 : r < 0 := by omega
    have HT := Lib.hid (tell_false hm)
    clear hr hm
    go_wp2_with fail
    go_ret
    exact ⟨by first | exact ret_bool HT.out.symm | (rw [HT.out]; rfl) | (rw [HT.out]; simp; omega), rfl⟩

theorem OwnN.cellsAt {W : World} {base g n cap : Nat} {p : Int} {r : Nat → Int} (h : OwnN W base p (.slice (some ⟨g, 0, none⟩) n cap) (rowOf n r)) {j : Nat} (hj : j < n) : W.cell? ⟨g, j * 2, none⟩ = some (.int .i64 p) ∧ W.cell? ⟨g, j * 2 + 1, none⟩ = some (.int .i64 (r j)) := by
  have hl : j < (rowOf n r).length := by rw [rowOf_len]; exact hj
  have h' : W.ownsRow base 54 2 (.slice (some ⟨g, 0, none⟩) n cap) n (numCells p (rowOf n r)) := by have h0 := h; unfold OwnN at h0; rw [rowOf_len] at h0; exact h0
  refine ⟨?_, ?_⟩
  · rw [World.ownsRow.cellAt h' (j * 2) (by omega), numCells_get0 p _ hl]
  · rw [World.ownsRow.cellAt h' (j * 2 + 1) (by omega), numCells_get1 p _ hl, rowOf_at _ _ hj]
theorem OwnN.fzAt {W : World} {base g n cap : Nat} {p : Int} {zs : List Int} (h : OwnN W base p (.slice (some ⟨g, 0, none⟩) n cap) zs) (j : Nat) : W.frozen? ⟨g, j, none⟩ = false := by
  obtain ⟨a', c', e⟩ := rowForm h
  cases e
  exact World.ownsRow.frozenAt h j
theorem OwnN.glt {W : World} {base g n cap : Nat} {p : Int} {zs : List Int} (h : OwnN W base p (.slice (some ⟨g, 0, none⟩) n cap) zs) : base ≤ g ∧ g < W.heap.size := row_lt h rfl
theorem rowOf_set (n k : Nat) (y : Int) (r : Nat → Int) : (rowOf n r).set k y = rowOf n (fun j => if j = k then y else r j) := by
  refine ext_nth (by simp [rowOf]) fun i hi => ?_
  have hi' : i < n := by simpa [rowOf] using hi
  rw [rowOf_at _ _ hi', nth_lt hi]
  by_cases e : i = k
  · subst e; simp
  · rw [List.getElem_set_ne (fun q => e q.symm), if_neg e]
    simp [rowOf]

set_option maxRecDepth 100000 in
set_option maxHeartbeats 8000000 in
theorem kernel_any (p x : Int) (n m rc fc base : Nat) (ra fa : Option Addr) (us : List Value) (f : Nat → Nat → Int) (F : List Nat) (z : List (List Int)) (w : World) (ho : OwnG w base p (.slice ra m rc) us (tab m n f)) (hfi : w.ownsRow base 3 1 (.slice fa F.length fc) F.length (cols F)) (hF : F = echF p n z) (ht : tab F.length n f = echZ p n z) (hFm : F.length ≤ m) (hel : ∀ i, i < m → ∀ j, j < n → Elem p (f i j)) (hp0 : 2 ≤ p) (hp1 : p ≤ 31) (hm : m ≤ 1000) (hn : n ≤ 1000) :
    Calls Try.prog 23 #[.agg #[.slice ra m rc, .int .i64 p, .int .i64 ((n : Nat) : Int), .slice fa F.length fc, .int .i64 p, .int .i64 x]] w fun e w' => (∃ va vc us', e = .returned (.agg #[.slice va (kerZ p n z).length vc, .int .i64 p, .int .i64 ((n : Nat) : Int)]) ∧ OwnG w' w.heap.size p (.slice va (kerZ p n z).length vc) us' (kerZ p n z)) ∧ Below w.heap.size w w' := by
  obtain ⟨i1, ji, jz0, jz1, jz2⟩ := info_parts Try.infoNums
  have HO := Lib.hid ho
  have HFI := Lib.hid hfi
  have HF := Lib.hid hF
  have HTB := Lib.hid ht
  have HEL := Lib.hid hel
  have hfl1 : F.length ≤ 1000 := by omega
  have HFB := Lib.hid (show ∀ k, k < F.length → nthN F k < n from fun k hk => echF_lt (p := p) (z := z) _ (by rw [← hF]; exact nthN_mem hk))
  clear ho hfi hF ht hel
  go_enter Try.func23, Try.ntmps23
  go_upto_region 2 with fail
  have hb1 := (((Below.refl w.heap.size w).alloc (Nat.le_refl _) (.cells #[.slice ra m rc, .int .i64 p, .int .i64 ((n : Nat) : Int), .slice fa F.length fc, .int .i64 p, .int .i64 x] 56)).alloc (by simp) (.cells #[.slice none 0 0, .int .i64 0, .int .i64 0] 48)).alloc (by simp; omega) (.cells #[.slice none 0 0, .int .i64 p, .int .i64 ((n : Nat) : Int)] 48)
  have hx0 : Boxes (((w.alloc (.cells #[.slice ra m rc, .int .i64 p, .int .i64 ((n : Nat) : Int), .slice fa F.length fc, .int .i64 p, .int .i64 x] 56)).alloc (.cells #[.slice none 0 0, .int .i64 0, .int .i64 0] 48)).alloc (.cells #[.slice none 0 0, .int .i64 p, .int .i64 ((n : Nat) : Int)] 48)) w.heap.size 56 #[.slice ra m rc, .int .i64 p, .int .i64 ((n : Nat) : Int), .slice fa F.length fc, .int .i64 p, .int .i64 x] := Boxes.step (Boxes.step (World.alloc_heap_new w _) (al_b _ _)) (al_b _ _)
  have hx1 : Boxes (((w.alloc (.cells #[.slice ra m rc, .int .i64 p, .int .i64 ((n : Nat) : Int), .slice fa F.length fc, .int .i64 p, .int .i64 x] 56)).alloc (.cells #[.slice none 0 0, .int .i64 0, .int .i64 0] 48)).alloc (.cells #[.slice none 0 0, .int .i64 p, .int .i64 ((n : Nat) : Int)] 48)) (w.heap.size + 1) 48 #[.slice none 0 0, .int .i64 0, .int .i64 0] := by
    have := Boxes.step (W := (w.alloc (.cells #[.slice ra m rc, .int .i64 p, .int .i64 ((n : Nat) : Int), .slice fa F.length fc, .int .i64 p, .int .i64 x] 56)).alloc (.cells #[.slice none 0 0, .int .i64 0, .int .i64 0] 48)) (World.alloc_heap_new (w.alloc (.cells #[.slice ra m rc, .int .i64 p, .int .i64 ((n : Nat) : Int), .slice fa F.length fc, .int .i64 p, .int .i64 x] 56)) (.cells #[.slice none 0 0, .int .i64 0, .int .i64 0] 48)) (al_b _ (.cells #[.slice none 0 0, .int .i64 p, .int .i64 ((n : Nat) : Int)] 48))
    simp only [World.size_alloc] at this
    exact this
  have hx2 : Boxes (((w.alloc (.cells #[.slice ra m rc, .int .i64 p, .int .i64 ((n : Nat) : Int), .slice fa F.length fc, .int .i64 p, .int .i64 x] 56)).alloc (.cells #[.slice none 0 0, .int .i64 0, .int .i64 0] 48)).alloc (.cells #[.slice none 0 0, .int .i64 p, .int .i64 ((n : Nat) : Int)] 48)) (w.heap.size + 2) 48 #[.slice none 0 0, .int .i64 p, .int .i64 ((n : Nat) : Int)] := by
    have : Boxes (((w.alloc (.cells #[.slice ra m rc, .int .i64 p, .int .i64 ((n : Nat) : Int), .slice fa F.length fc, .int .i64 p, .int .i64 x] 56)).alloc (.cells #[.slice none 0 0, .int .i64 0, .int .i64 0] 48)).alloc (.cells #[.slice none 0 0, .int .i64 p, .int .i64 ((n : Nat) : Int)] 48)) ((w.alloc (.cells #[.slice ra m rc, .int .i64 p, .int .i64 ((n : Nat) : Int), .slice fa F.length fc, .int .i64 p, .int .i64 x] 56)).alloc (.cells #[.slice none 0 0, .int .i64 0, .int .i64 0] 48)).heap.size 48 #[.slice none 0 0, .int .i64 p, .int .i64 ((n : Nat) : Int)] := World.alloc_heap_new _ _
    simp only [World.size_alloc] at this
    exact this
  generalize (((w.alloc (.cells #[.slice ra m rc, .int .i64 p, .int .i64 ((n : Nat) : Int), .slice fa F.length fc, .int .i64 p, .int .i64 x] 56)).alloc (.cells #[.slice none 0 0, .int .i64 0, .int .i64 0] 48)).alloc (.cells #[.slice none 0 0, .int .i64 p, .int .i64 ((n : Nat) : Int)] 48)) = w3 at *
  have HB1 := Lib.hid hb1
  have HX0 := Lib.hid hx0
  have HX1 := Lib.hid hx1
  have HX2 := Lib.hid hx2
  obtain ⟨a0, a1, a2, a3, a4, a5⟩ := hx0.c6
  have al := hx0.lt
  clear hb1 hx0 hx1 hx2
  go_wp2_with fail
  clear a0 a1 a2 a3 a4 a5 al
  go_loopw [4, 5, 6, 7, 18] (fun q4 q5 q6 q7 i wr => ∃ (k : Nat) (va : Option Addr) (vc : Nat) (us' : List Value), k ≤ n ∧ i = .int .i64 k ∧ Boxes wr w.heap.size 56 #[.slice ra m rc, .int .i64 p, .int .i64 ((n : Nat) : Int), .slice fa F.length fc, .int .i64 p, .int .i64 x] ∧ Boxes wr (w.heap.size + 1) 48 #[.slice none 0 0, .int .i64 0, .int .i64 0] ∧ Boxes wr (w.heap.size + 2) 48 #[.slice va (kerTo p n z k).length vc, .int .i64 p, .int .i64 ((n : Nat) : Int)] ∧ OwnG wr (w.heap.size + 3) p (.slice va (kerTo p n z k).length vc) us' (kerTo p n z k) ∧ Below w.heap.size w wr)
    (fun _ _ _ _ i _ => n - (intOf i).toNat)
  case atStart => exact ⟨0, none, 0, _, Nat.zero_le _, rfl, HX0.out, HX1.out, HX2.out, OwnG.nil _ _ _, HB1.out⟩
  case round =>
    obtain ⟨k, va, vc, us', hk, rfl, hx0, hx1, hx2, hog, hb⟩ := hrel
    have hklen := kerTo_len (p := p) (n := n) (z := z) k
    clear HX0 HX1 HX2 HB1
    have HX0 := Lib.hid hx0
    have HX1 := Lib.hid hx1
    have HX2 := Lib.hid hx2
    have HOG := Lib.hid hog
    have HBW := Lib.hid hb
    have hl0 := hx0.lt
    have hl2 := hx2.lt
    clear hog hb
    obtain ⟨wo, rfl⟩ : ∃ wo : World, wo = wr := ⟨_, rfl⟩
    by_cases hlt : k < n
    · have hk0 : (k : Int) < (n : Int) := by omega
      have HRA := Lib.hid (show RedAt wo w.heap.size base p m n ra rc us f fa fc F x from ⟨hx0, HO.out.step HBW.out, row_step HFI.out HBW.out⟩)
      obtain ⟨a0, a1, a2, a3, a4, a5⟩ := hx0.c6
      clear hx0 hx1 hx2
      by_cases hin : k ∈ F
      · have HT := Lib.hid (tell_true hin)
        have HSK := Lib.hid (ker_skip (p := p) (n := n) (z := z) (k := k) (by rw [← HF.out]; exact hin))
        clear hin
        go_wp2_with fail
        refine (containsI_any fa fc F k base wo HRA.out.firsts hfl1).mono ?_
        rintro e w' ⟨rfl, rfl⟩
        rw [HT.out]
        go_wp2_with fail
        go_roundw
        case rel => exact ⟨k + 1, va, vc, us', by omega, by go_num, HX0.out, HX1.out, by rw [HSK.out]; exact HX2.out, by rw [HSK.out]; exact HOG.out, HBW.out⟩
        case measure => simp [intOf]; omega
      have HT := Lib.hid (tell_false hin)
      have HNX := Lib.hid (ker_next (p := p) (n := n) (z := z) (k := k) (by rw [← HF.out]; exact hin))
      clear hin
      go_wp2_with fail
      refine (containsI_any fa fc F k base wo HRA.out.firsts hfl1).mono ?_
      rintro e w' ⟨rfl, rfl⟩
      rw [HT.out]
      clear a0 a1 a2 a3 a4 a5
      go_upto_region 6 with fail
      have MK := Lib.hid (show ∀ w' : World, Below wo.heap.size wo w' → w'.cell? ⟨w.heap.size, 1, none⟩ = some (.int .i64 p) ∧ w'.cell? ⟨w.heap.size, 2, none⟩ = some (.int .i64 ((n : Nat) : Int)) from fun w' hw => ⟨(HX0.out.step hw).c6.2.1, (HX0.out.step hw).c6.2.2.1⟩)
      go_region_held3 (fun w' => w'.cell? ⟨w.heap.size, 1, none⟩ = some (.int .i64 p) ∧ w'.cell? ⟨w.heap.size, 2, none⟩ = some (.int .i64 ((n : Nat) : Int))) (first | exact MK.out _ (drew_step _) | exact MK.out _ HB8.out | exact MK.out _ (HB8.out.alloc HB8.out.size _) | exact MK.out _ HB9.out | fail) (first
        | (go_at_call 32; refine (number_any p 0 _).mono ?_; rintro e w8 ⟨rfl, hb8⟩; have HB8 := Lib.hid (show Below wo.heap.size wo w8 from (drew_step wo).trans hb8); have HN8 := Lib.hid (show Nums (w8.alloc (.cells #[.int .i64 p, .int .i64 0] 54)) (some ⟨w8.heap.size, 0, none⟩) p [0] from nums_new w8 p 0); clear hb8)
        | (go_at_call 39; refine (repeat_any p 0 w8.heap.size 1 n _ HN8.out hn).mono ?_; rintro e w9 ⟨v9, rfl, ho9, hb9⟩; have HB9 := Lib.hid (show Below wo.heap.size wo w9 from (HB8.out.alloc HB8.out.size (.cells #[.int .i64 p, .int .i64 0] 54)).trans (hb9.mono (by have := HB8.out.size; simp; omega))); have HO9 := Lib.hid (show OwnN w9 wo.heap.size p v9 (List.replicate n 0) from ho9.mono (by have := HB8.out.size; simp; omega)); obtain ⟨ga, gc, hr9⟩ := rowForm ho9; rw [List.length_replicate] at hr9; subst hr9; clear ho9 hb9))
      all_goals (
        obtain ⟨g, gcap, hge, hgb, hgl⟩ := World.ownsRow.form (show w9.ownsRow wo.heap.size 54 2 (.slice ga n gc) n (numCells p (List.replicate n 0)) from by have h := HO9.out; unfold OwnN at h; rw [List.length_replicate] at h; exact h) (by omega)
        cases hge
        have HR9 := Lib.hid (show OwnN w9 wo.heap.size p (.slice (some ⟨g, 0, none⟩) n gc) (rowOf n (fun _ => 0)) from by rw [show rowOf n (fun _ => (0 : Int)) = List.replicate n 0 from by unfold rowOf; rw [List.map_const', List.length_range]]; exact HO9.out)
        have a1 := (HX0.out.step HB9.out).c6.2.1
        have al := (HX0.out.step HB9.out).lt
        go_wp2_with fail
        refine (number_any p 1 _).mono ?_
        rintro e w10 ⟨rfl, hb10⟩
        have HB10 := Lib.hid (HB9.out.trans (hb10.mono HB9.out.size))
        have hr10 := HR9.out.step hb10
        have d0 := (OwnN.cellsAt hr10 hlt).1
        have d1 := (OwnN.cellsAt hr10 hlt).2
        have f0 := OwnN.fzAt hr10 (k * 2)
        have f1 := OwnN.fzAt hr10 (k * 2 + 1)
        have gl := (OwnN.glt hr10).2
        have HR11 := Lib.hid (show OwnN ((w10.setCell ⟨g, k * 2, none⟩ (.int .i64 p)).setCell ⟨g, k * 2 + 1, none⟩ (.int .i64 1)) wo.heap.size p (.slice (some ⟨g, 0, none⟩) n gc) (rowOf n (solAt (oneAt k) F (kerG p n z k) 0)) from by
          have h := OwnN.put hr10 k 1
          rw [rowOf_set] at h
          refine (show rowOf n (fun j => if j = k then 1 else (0 : Int)) = rowOf n (solAt (oneAt k) F (kerG p n z k) 0) from rowOf_ext fun j _ => rfl) ▸ h)
        have HB11 := Lib.hid ((HB10.out.setCell (p := ⟨g, k * 2, none⟩) hgb (.int .i64 p)).setCell (p := ⟨g, k * 2 + 1, none⟩) hgb (.int .i64 1))
        clear hb10 hr10 a1 al
        go_upto_region 8 with fail
        clear d0 d1 f0 f1 gl
        generalize (w10.setCell ⟨g, k * 2, none⟩ (.int .i64 p)).setCell ⟨g, k * 2 + 1, none⟩ (.int .i64 1) = w11 at *
        obtain ⟨b0, b1, b2, b3, b4, b5⟩ := (HX0.out.step HB11.out).c6
        have bl := (HX0.out.step HB11.out).lt
        go_wp2_with fail
        clear b0 b1 b2 b3 b4 b5 bl
        go_loopw [6, 7, 44] (fun q6 q7 i wi => ∃ j : Nat, j ≤ F.length ∧ i = .int .i64 j ∧ OwnN wi wo.heap.size p (.slice (some ⟨g, 0, none⟩) n gc) (rowOf n (solAt (oneAt k) F (kerG p n z k) j)) ∧ Below wo.heap.size wo wi)
          (fun _ _ i _ => F.length - (intOf i).toNat)
        case atStart => exact ⟨0, Nat.zero_le _, rfl, HR11.out, HB11.out⟩
        case round =>
          obtain ⟨j, hj, rfl, hrow, hbi⟩ := hrel
          have HRO := Lib.hid hrow
          have HBI := Lib.hid hbi
          have hsz := hbi.size
          clear hrow hbi HR11 HB11
          by_cases hltj : j < F.length
          · have hj0 : (j : Int) < (F.length : Int) := by omega
            have hra := HRA.out.step HBI.out
            obtain ⟨fb, fcap, hfe, -, hfl⟩ := hra.firsts.form (by omega)
            cases hfe
            have hfk := World.ownsRow.cellAt hra.firsts j (by omega)
            rw [cols_at hltj] at hfk
            have hrb := HFB.out j hltj
            have HKS := Lib.hid (ker_set (oneAt k) F (kerG p n z k) n j)
            obtain ⟨r, hr⟩ : ∃ r, nthN F j = r := ⟨_, rfl⟩
            rw [hr] at hfk hrb HKS
            obtain ⟨b, g2, cap2, hea, -, -, hbl, hgl2, hcr, hcc⟩ := hra.row (r := j) (by omega) (by omega)
            cases hea
            obtain ⟨e0, e1⟩ := hcc k hlt
            obtain ⟨y, hy⟩ : ∃ y, f j k = y := ⟨_, rfl⟩
            have hye := HEL.out j (by omega) k hlt
            rw [hy] at e1 hye
            have HKG := Lib.hid (show kerG p n z k j = (p - y) % p from by
              unfold kerG
              rw [← HTB.out, tab_at _ _ _ hltj hlt, hy])
            rw [HKG.out] at HKS
            obtain ⟨b0, b1, b2, b3, b4, b5⟩ := hra.box.c6
            have bl := hra.box.lt
            have hjm : (j : Int) < (m : Int) := by omega
            have hrn : (r : Int) < (n : Int) := by omega
            have HYE := Lib.hid hye
            clear hcc hr hra hy hye
            go_wp2_with fail
            refine (negative_any p y _ hp0 hp1 HYE.out).mono ?_
            rintro e w12 ⟨rfl, hb12⟩
            have hr12 := HRO.out.step hb12
            have HB12 := Lib.hid (HBI.out.trans (hb12.mono hsz))
            obtain ⟨t, ht⟩ : ∃ t, (p - y) % p = t := ⟨_, rfl⟩
            rw [ht] at HKS ⊢
            clear ht HKG
            have d0 := (OwnN.cellsAt hr12 hrb).1
            have d1 := (OwnN.cellsAt hr12 hrb).2
            have f0 := OwnN.fzAt hr12 (r * 2)
            have f1 := OwnN.fzAt hr12 (r * 2 + 1)
            have gl := (OwnN.glt hr12).2
            have HRN := Lib.hid (show OwnN ((w12.setCell ⟨g, r * 2, none⟩ (.int .i64 p)).setCell ⟨g, r * 2 + 1, none⟩ (.int .i64 t)) wo.heap.size p (.slice (some ⟨g, 0, none⟩) n gc) (rowOf n (solAt (oneAt k) F (kerG p n z k) (j + 1))) from by
              have h := OwnN.put hr12 r t
              rw [HKS.out] at h
              exact h)
            have HBN := Lib.hid ((HB12.out.setCell (p := ⟨g, r * 2, none⟩) hgb (.int .i64 p)).setCell (p := ⟨g, r * 2 + 1, none⟩) hgb (.int .i64 t))
            clear hr12 hb12 b0 b1 b2 b3 b4 b5 bl hfk e0 e1 hcr
            go_wp2_with fail
            go_roundw
            case rel => exact ⟨j + 1, by omega, by go_num, HRN.out, HBN.out⟩
            case measure => simp [intOf]; omega
          · have HE := Lib.hid (show j = F.length by omega)
            have hj0 : ¬ (j : Int) < (F.length : Int) := by omega
            have HX2I := Lib.hid (HX2.out.step HBI.out)
            have HX1I := Lib.hid (HX1.out.step HBI.out)
            have HX0I := Lib.hid (HX0.out.step HBI.out)
            have HKR := Lib.hid (show OwnN wr wo.heap.size p (.slice (some ⟨g, 0, none⟩) n gc) (kerRow p n z k) from by
              have h := HRO.out
              rw [HE.out] at h
              unfold kerRow
              rw [← HF.out]
              exact h)
            obtain ⟨mk, hmk⟩ : ∃ mk, (kerTo p n z k).length = mk := ⟨_, rfl⟩
            have hmk2 : mk ≤ 1000 := by omega
            have HRS := Lib.hid (HOG.out.rows.snoc HBI.out HKR.out (show w.heap.size + 3 ≤ wo.heap.size from hl2))
            have HOR := Lib.hid (show wr.ownsRow (w.heap.size + 3) 69 1 (.slice va mk vc) mk us' from by have h := row_step HOG.out.row HBI.out; rw [hmk] at h; exact h)
            have HNL := Lib.hid (show (kerTo p n z (k + 1)).length = mk + 1 by rw [HNX.out, List.length_append, hmk]; rfl)
            rw [hmk] at HX2I
            have c0 := HX2I.out.m0
            have cf := HX2I.out.frozen 0
            have cl := HX2I.out.lt
            clear hmk hklen
            go_wp2_with (at_builtin; refine wpList_append_own _ rfl _ _ 45 rfl (w.heap.size + 3) 69 i1 (.slice none 0 0) 1 24 Try.underlying45 ji jz0 jz1 jz2 rfl (by decide) _ _ us' rfl (World.ownsRow.alloc HOR.out _) ⟨wr.heap.size, 0, none⟩ 1 1 [(.slice (some ⟨g, 0, none⟩) n gc)] rfl rfl (cell_one_new _ _ _) (by simp [Value.oneCell']) (by unfold maxLen; omega) (by omega) (by simp; omega) ?_; intro v' w7 hown7 hgrow7 _; obtain ⟨va', vc', rfl⟩ := rowForm hown7; have hxx := (HX2I.out.step (al_b wr (.cells #[(.slice (some ⟨g, 0, none⟩) n gc)] 69))).grown hgrow7 (row_ge HOR.out (Nat.lt_succ_self _)); have g0 := hxx.m0; have g1 := hxx.frozen 0)
            have hz7 : w.heap.size + 2 < w7.heap.size := hxx.lt
            have HX7 := Lib.hid hxx
            have HY7 := Lib.hid ((HX1I.out.step (al_b wr (.cells #[(.slice (some ⟨g, 0, none⟩) n gc)] 69))).grown hgrow7 (row_ge HOR.out (by omega)))
            have HZ7 := Lib.hid ((HX0I.out.step (al_b wr (.cells #[(.slice (some ⟨g, 0, none⟩) n gc)] 69))).grown hgrow7 (row_ge HOR.out (by omega)))
            have HO7 := Lib.hid hown7
            have HG7 := Lib.hid hgrow7
            have hszo : w.heap.size + 3 ≤ wr.heap.size := by omega
            clear hxx hown7 hgrow7 c0 cf cl
            go_wp2_with fail
            go_roundw
            case rel =>
              refine ⟨k + 1, va', vc', us' ++ [(.slice (some ⟨g, 0, none⟩) n gc)], by omega, by go_num, HZ7.out.other3 (by omega), HY7.out.other3 (by omega), by rw [HNL.out]; exact HX7.out.set3 _, ⟨?_, ?_⟩, ?_⟩
              · rw [HNL.out]
                exact row_set (u := .slice va' (mk + 1) vc') (o := 0) HO7.out (show w.heap.size + 2 < w.heap.size + 3 by omega)
              · rw [HNX.out]
                refine (HRS.out.map (W' := w7) fun u zs ho => row_other (World.ownsRow.alloc ho _) (World.ownsRow.alloc HOR.out _) HG7.out (by decide)).map fun u zs ho => row_set ho (by omega) _
              · refine Below.setCell ?_ (by show w.heap.size ≤ w.heap.size + 2; omega) _
                exact ((HBW.out.trans (HBI.out.mono (by omega))).alloc (by omega) _).grown HG7.out (by simp; omega) (fun q hq => by have := row_lt HOR.out hq; omega)
            case measure => simp [intOf]; omega)
    · have HE := Lib.hid (show k = n by omega)
      have hk0 : ¬ (k : Int) < (n : Int) := by omega
      have HKZ := Lib.hid (show kerTo p n z k = kerZ p n z by unfold kerZ; rw [HE.out])
      have e1 := hx1.m0
      have e2 := hx1.m1
      have e3 := hx1.m2
      have e4 := hx1.frozen 0
      have e5 := hx1.frozen 1
      have e6 := hx1.frozen 2
      have el := hx1.lt
      have c0 := hx2.m0
      have c1 := hx2.m1
      have c2 := hx2.m2
      clear hx0 hx1 hx2
      go_wp2_with fail
      refine bodyPost_ret (v := .agg #[.slice va (kerTo p n z k).length vc, .int .i64 p, .int .i64 ((n : Nat) : Int)]) (by simp [results, Try.results23, go_sem, e1, e2, e3]) rfl ?_
      have h8 := HOG.out
      rw [HKZ.out] at h8 ⊢
      refine ⟨⟨va, vc, rfl, us', ?_⟩, ?_⟩
      · exact (((h8.setCell2 (p := ⟨w.heap.size + 1, 0, none⟩) (by show w.heap.size + 1 < w.heap.size + 3; omega) _).setCell2 (p := ⟨w.heap.size + 1, 1, none⟩) (by show w.heap.size + 1 < w.heap.size + 3; omega) _).setCell2 (p := ⟨w.heap.size + 1, 2, none⟩) (by show w.heap.size + 1 < w.heap.size + 3; omega) _).mono (Nat.le_add_right _ 3)
      · exact ((HBW.out.setCell (p := ⟨w.heap.size + 1, 0, none⟩) (by show w.heap.size ≤ w.heap.size + 1; omega) _).setCell (p := ⟨w.heap.size + 1, 1, none⟩) (by show w.heap.size ≤ w.heap.size + 1; omega) _).setCell (p := ⟨w.heap.size + 1, 2, none⟩) (by show w.heap.size ≤ w.heap.size + 1; omega) _
end Go.Proofs.Ytpifgapogbbcnaa

/- WithoutHolder and TrustHolder. -/
import Derived.Test.YtpkflamhniidiaaDoorMinI
namespace Go.Proofs.YtpkflamhniidiaaDoor
open Go.RowKit Go.Deep Go.Shelf
set_option linter.unusedVariables false

set_option maxRecDepth 100000 in
theorem Wo_chooses (B C T m j : Nat) (q : Nat → Bool) (w : World) (hB : w.cell? ⟨B, 0, none⟩ = some (.pointer (some ⟨T, 0, none⟩))) (hC : w.cell? ⟨C, 0, none⟩ = some (.int .i64 (j : Nat))) (ht : TableAt w T m q) (m7 : m ≤ 7) (hj : j < m) :
    ChoosesC w 94 #[] #[.pointer (some ⟨B, 0, none⟩), .pointer (some ⟨C, 0, none⟩)] (m - 1) (fun x => q (minN false j x)) := by
  refine ⟨enters_of Tryd.func94 (by kernel_rfl) rfl, fun x W hxh hb => ?_⟩
  have hBW := cell_step hb hB
  have hCW := cell_step hb hC
  have HT := Lib.hid (ht.below hb (World.block_lt_of_cell? _ _ ht.h0))
  have hx64 : x.val < 64 := Nat.lt_of_lt_of_le hxh (Nat.pow_le_pow_right (by decide) (by omega : m - 1 ≤ 6))
  have hj7 : j < 7 := by omega
  have h128 := wide_128 j hj7 x.val hx64
  have hy128 : minN false j x.val < 128 := Nat.lt_of_lt_of_le (minN_lt false m7 hj hxh) (Nat.pow_le_pow_right (by decide) m7 : 2 ^ m ≤ 2 ^ 7)
  clear hb hB hC ht
  show Calls Tryd.prog 94 #[.int .u64 (x.val : Int), .pointer (some ⟨B, 0, none⟩), .pointer (some ⟨C, 0, none⟩)] W _
  generalize x.val = y at *
  go_enter Tryd.func94, Tryd.ntmps94
  go_wp2
  go_quiet (first | (go_at_call 95; exact Calls.quiet_of_same (swapped (room_any y j _ hx64 hj7))) | (go_at_call 80; exact Calls.quiet_of_same (swapped (opens_any T m (minN false j y) q _ hy128 (HT.out.step (quiet_below ⟨_, rfl⟩))))))
  go_wp2
  go_ret
  exact ⟨rfl, quiet_below ⟨_, rfl⟩⟩

set_option maxHeartbeats 1000000 in
set_option maxRecDepth 100000 in
theorem specWo_any (h : Int) (a : Option Addr) (zss : List (List Int)) (c : Nat) (k : Int) (w : World) (hr : Rows2 w a zss) (hl : Small2 zss) (wf : (Lit.int .i64 k).wf = true) : Calls Tryd.prog 44 #[.agg #[.int .i64 h, .slice a zss.length c], .int .i64 k] w (GivesFC w (minOf false h zss k)) := by
  have hB0 := (Below.refl w.heap.size w).alloc (Nat.le_refl _) (.cells #[.int .i64 h, .slice a zss.length c] 27)
  have hB1 := hB0.alloc (by simp) (.cells #[.int .i64 0, .slice none 0 0] 27)
  have hbox0 : FamBox (w.alloc (.cells #[.int .i64 h, .slice a zss.length c] 27)) w.heap.size h a zss.length c := ⟨by simp, by simp⟩
  have hbox := hbox0.below ((Below.refl _ _).alloc (Nat.le_refl _) (.cells #[.int .i64 0, .slice none 0 0] 27)) (Nat.le_refl _)
  have hF0 : Boxes1 ((w.alloc (.cells #[.int .i64 h, .slice a zss.length c] 27)).alloc (.cells #[.int .i64 0, .slice none 0 0] 27)) (w.heap.size + 1) := by
    have := World.alloc_heap_new (w.alloc (.cells #[.int .i64 h, .slice a zss.length c] 27)) (.cells #[.int .i64 0, .slice none 0 0] 27)
    simpa [Boxes1] using this
  have HA := Lib.hid (hr.step hB1)
  have HX := Lib.hid hbox
  have HL := Lib.hid hl.lens
  have HB := Lib.hid hB1
  have HF := Lib.hid hF0
  clear hr hl hB0 hB1 hbox hbox0 hF0
  go_enter Tryd.func44, Tryd.ntmps44
  go_wp2_with fail
  generalize (w.alloc (.cells #[.int .i64 h, .slice a zss.length c] 27)).alloc (.cells #[.int .i64 0, .slice none 0 0] 27) = w1 at *
  refine (l01Minor_any false h w.heap.size a zss c k w1 HX.out HA.out HL.out wf).mono ?_
  rintro e w3 ⟨⟨a2, c2, rfl, hrows⟩, hb⟩
  have hszr := HF.out.lt
  have hf' := HF.out.step hb
  have c0 := hf'.c0
  have c1 := hf'.c1
  have f0 := hf'.f 0
  have f1 := hf'.f 1
  have HRR := Lib.hid hrows
  have HB3 := Lib.hid (chain HB.out hb)
  clear hrows hb hf'
  obtain ⟨R, hR⟩ : ∃ R, minOf false h zss k = R := ⟨_, rfl⟩
  rw [hR] at HRR ⊢
  obtain ⟨rh, rz, rc⟩ := R
  dsimp only at HRR ⊢
  have HRV := Lib.hid hR
  clear hR
  go_wp2_with fail
  refine bodyPost_ret (v := .tuple #[.agg #[.int .i64 rh, .slice a2 rz.length c2], .int .i64 rc]) (by simp [results, Tryd.results44, go_sem, c0, c1]) rfl ?_
  rw [HRV.out]
  exact ⟨⟨a2, c2, rfl, ((HRR.out.set hszr 0 _).set hszr 1 _).mono (by have := HB.out.size; omega)⟩, (HB3.out.setCell (by simp <;> omega) _).setCell (by simp <;> omega) _⟩

set_option maxHeartbeats 1000000 in
set_option maxRecDepth 100000 in
theorem implWo_any (h : Int) (a : Option Addr) (zss : List (List Int)) (c : Nat) (k : Int) (w : World) (hr : Rows2 w a zss) (hl : Small2 zss) (wf : (Lit.int .i64 k).wf = true) : Calls Tryd.prog 45 #[.agg #[.int .i64 h, .slice a zss.length c], .int .i64 k] w (GivesFO w (minOf false h zss k)) := by
  have hB0 := (Below.refl w.heap.size w).alloc (Nat.le_refl _) (.cells #[.int .i64 h, .slice a zss.length c] 27)
  have hB1 := hB0.alloc (by simp) (.cells #[.int .i64 k] 2)
  have hB2 := hB1.alloc (by simp; omega) (.cells #[.int .i64 0, .slice none 0 0] 27)
  have d0 : (((w.alloc (.cells #[.int .i64 h, .slice a zss.length c] 27)).alloc (.cells #[.int .i64 k] 2)).alloc (.cells #[.int .i64 0, .slice none 0 0] 27)).cell? ⟨w.heap.size, 0, none⟩ = some (.int .i64 h) := by simp [go_sem]
  have d1 : (((w.alloc (.cells #[.int .i64 h, .slice a zss.length c] 27)).alloc (.cells #[.int .i64 k] 2)).alloc (.cells #[.int .i64 0, .slice none 0 0] 27)).cell? ⟨w.heap.size + 1, 0, none⟩ = some (.int .i64 k) := by simp [go_sem]
  have hF0 : Boxes1 (((w.alloc (.cells #[.int .i64 h, .slice a zss.length c] 27)).alloc (.cells #[.int .i64 k] 2)).alloc (.cells #[.int .i64 0, .slice none 0 0] 27)) (w.heap.size + 1 + 1) := by
    have := World.alloc_heap_new ((w.alloc (.cells #[.int .i64 h, .slice a zss.length c] 27)).alloc (.cells #[.int .i64 k] 2)) (.cells #[.int .i64 0, .slice none 0 0] 27)
    simpa [Boxes1] using this
  have HA := Lib.hid (hr.step hB2)
  have HL := Lib.hid hl
  have HB := Lib.hid hB2
  have HF := Lib.hid hF0
  have hlt := hF0.lt
  clear hr hl hB0 hB1 hB2 hF0
  go_enter Tryd.func45, Tryd.ntmps45
  go_wp2_with fail
  generalize ((w.alloc (.cells #[.int .i64 h, .slice a zss.length c] 27)).alloc (.cells #[.int .i64 k] 2)).alloc (.cells #[.int .i64 0, .slice none 0 0] 27) = w1 at *
  refine (leave_any h a zss c k w1 HA.out HL.out).mono ?_
  rintro e w2 ⟨hcase, hb⟩
  have e0 := (hb.cell (p := ⟨w.heap.size, 0, none⟩) (by show w.heap.size < w1.heap.size; omega)).trans d0
  have e1 := (hb.cell (p := ⟨w.heap.size + 1, 0, none⟩) (by show w.heap.size + 1 < w1.heap.size; omega)).trans d1
  have HF2 := Lib.hid (HF.out.step hb)
  have HB2 := Lib.hid (chain HB.out hb)
  have hs2 := hb.size
  clear hb d0 d1
  rcases hcase with ⟨T, hfo, hk, h1, rfl, htab⟩ | ⟨code, hcode, hmin, rfl⟩
  · have hh1 : 1 ≤ h := hfo.1.1
    have hh7 : h ≤ 7 := hfo.1.2
    obtain ⟨m, rfl⟩ : ∃ m : Nat, h = (m : Int) := ⟨h.toNat, by omega⟩
    obtain ⟨j, rfl⟩ : ∃ j : Nat, k = (j : Int) := ⟨k.toNat, by omega⟩
    have hjm : j < m := by omega
    have m7 : m ≤ 7 := by omega
    obtain ⟨m', hm'⟩ : ∃ m' : Nat, (m : Int) - 1 = (m' : Int) := ⟨m - 1, by omega⟩
    have hmm : m' = m - 1 := by omega
    have hm1 : 1 ≤ m' := by omega
    have hm7 : m' ≤ 7 := by omega
    have HMM := Lib.hid hmm
    have HV := Lib.hid (min_in (tr := false) (zss := zss) hfo hjm (by omega))
    have HQ := Lib.hid (show famOf m' (fun x => tabOf (m : Int) zss (minN false j x)) = famOf m' (minB false j zss) from famOf_congr hm7 fun y hy => by
      show tabOf (m : Int) zss (minN false j y) = tblAt zss zss.length (minN false j y)
      unfold tabOf
      rw [Int.toNat_natCast]
      exact seenBy_all m7 _ (minN_lt false m7 hjm (by rw [← hmm]; exact hy)))
    rw [Int.toNat_natCast] at htab
    have hbT := (Below.refl w2.heap.size w2).alloc (Nat.le_refl _) (.cells #[.pointer (some ⟨T, 0, none⟩)] 88)
    have HTA := Lib.hid (htab.step hbT)
    have HF3 := Lib.hid (HF2.out.step hbT)
    have HB3 := Lib.hid (chain HB2.out hbT)
    have a0 := cell_step hbT e0
    have a1 := cell_step hbT e1
    have aT : (w2.alloc (.cells #[.pointer (some ⟨T, 0, none⟩)] 88)).cell? ⟨w2.heap.size, 0, none⟩ = some (.pointer (some ⟨T, 0, none⟩)) := by simp
    clear hfo hk htab hbT hmm
    go_wp2_with fail
    generalize w2.alloc (.cells #[.pointer (some ⟨T, 0, none⟩)] 88) = w3 at *
    refine (familyWhereC_any m' _ #[] #[.pointer (some ⟨w2.heap.size, 0, none⟩), .pointer (some ⟨w.heap.size + 1, 0, none⟩)] (fun x => tabOf (m : Int) zss (minN false j x)) w3 hm1 hm7 (by have hc := Wo_chooses w2.heap.size (w.heap.size + 1) T m j (tabOf (m : Int) zss) w3 aT a1 HTA.out m7 hjm; rw [← HMM.out] at hc; exact hc)).mono ?_
    rintro e w4 ⟨⟨v, us, rfl, hrow, hrows⟩, hb⟩
    rw [famOf_seen hm7, HQ.out] at hrow hrows
    obtain ⟨va, vc, hva⟩ := rowForm hrow
    subst hva
    have hZ3 := HF3.out.lt
    have hf' := HF3.out.step hb
    have c0 := hf'.c0
    have c1 := hf'.c1
    have f0 := hf'.f 0
    have f1 := hf'.f 1
    have HR := Lib.hid hrow
    have HRS := Lib.hid hrows
    have HB4 := Lib.hid (chain HB3.out hb)
    have hle : w.heap.size ≤ w3.heap.size := HB3.out.size
    clear hrow hrows hb hf' e0 e1 a0 a1 aT
    have hV2 : minOf false (m : Int) zss (j : Int) = ⟨(m' : Nat), famOf m' (minB false j zss), 0⟩ := by rw [HV.out, hm', HMM.out]
    have HV2 := Lib.hid hV2
    clear hV2
    generalize famOf m' (minB false j zss) = Z at *
    go_wp2_with fail
    refine bodyPost_ret (v := .tuple #[.agg #[.int .i64 (m' : Nat), .slice va Z.length vc], .int .i64 0]) (by simp [results, Tryd.results45, go_sem, c0, c1]) rfl ?_
    rw [HV2.out]
    exact ⟨⟨_, us, rfl, ownsRow_mono (row_set (row_set HR.out hZ3 _) hZ3 _) hle, (HRS.out.map fun u zs hu => row_set (row_set hu hZ3 _) hZ3 _).mono hle⟩, (HB4.out.setCell (by simp <;> omega) _).setCell (by simp <;> omega) _⟩
  · have HV := Lib.hid (hmin false)
    have hbT := (Below.refl w2.heap.size w2).alloc (Nat.le_refl _) (.cells #[.pointer none] 88)
    have hf' := HF2.out.step hbT
    have c0 := hf'.c0
    have c1 := hf'.c1
    have f0 := hf'.f 0
    have f1 := hf'.f 1
    have HB3 := Lib.hid (chain HB2.out hbT)
    clear hmin hbT hf' e0 e1
    rcases hcode with rfl | rfl | rfl
    all_goals
      go_wp2_with fail
      generalize w2.alloc (.cells #[.pointer none] 88) = w3 at *
      refine bodyPost_ret (v := .tuple #[.agg #[.int .i64 0, .slice none 0 0], .int .i64 _]) (by simp [results, Tryd.results45, go_sem, c0, c1]; rfl) rfl ?_
      rw [HV.out]
      exact GivesFO.no _ ((HB3.out.setCell (by simp <;> omega) _).setCell (by simp <;> omega) _)

set_option maxRecDepth 100000 in
theorem Tr_chooses (B C T m j : Nat) (q : Nat → Bool) (w : World) (hB : w.cell? ⟨B, 0, none⟩ = some (.pointer (some ⟨T, 0, none⟩))) (hC : w.cell? ⟨C, 0, none⟩ = some (.int .i64 (j : Nat))) (ht : TableAt w T m q) (m7 : m ≤ 7) (hj : j < m) :
    ChoosesC w 96 #[] #[.pointer (some ⟨B, 0, none⟩), .pointer (some ⟨C, 0, none⟩)] (m - 1) (fun x => q (minN true j x)) := by
  refine ⟨enters_of Tryd.func96 (by kernel_rfl) rfl, fun x W hxh hb => ?_⟩
  have hBW := cell_step hb hB
  have hCW := cell_step hb hC
  have HT := Lib.hid (ht.below hb (World.block_lt_of_cell? _ _ ht.h0))
  have hx64 : x.val < 64 := Nat.lt_of_lt_of_le hxh (Nat.pow_le_pow_right (by decide) (by omega : m - 1 ≤ 6))
  have hj7 : j < 7 := by omega
  have h128 := wide_128 j hj7 x.val hx64
  have hy128 : minN true j x.val < 128 := Nat.lt_of_lt_of_le (minN_lt true m7 hj hxh) (Nat.pow_le_pow_right (by decide) m7 : 2 ^ m ≤ 2 ^ 7)
  clear hb hB hC ht
  show Calls Tryd.prog 96 #[.int .u64 (x.val : Int), .pointer (some ⟨B, 0, none⟩), .pointer (some ⟨C, 0, none⟩)] W _
  generalize x.val = y at *
  go_enter Tryd.func96, Tryd.ntmps96
  go_wp2
  go_quiet (first | (go_at_call 95; exact Calls.quiet_of_same (swapped (room_any y j _ hx64 hj7))) | (go_at_call 97; exact Calls.quiet_of_same (swapped (with_any (wideN j y) (j : Int) _ h128 (by omega) (by omega)))) | (go_at_call 80; exact Calls.quiet_of_same (swapped (opens_any T m (minN true j y) q _ hy128 (HT.out.step (quiet_below ⟨_, rfl⟩))))))
  go_wp2
  go_ret
  exact ⟨rfl, quiet_below ⟨_, rfl⟩⟩

set_option maxHeartbeats 1000000 in
set_option maxRecDepth 100000 in
theorem specTr_any (h : Int) (a : Option Addr) (zss : List (List Int)) (c : Nat) (k : Int) (w : World) (hr : Rows2 w a zss) (hl : Small2 zss) (wf : (Lit.int .i64 k).wf = true) : Calls Tryd.prog 46 #[.agg #[.int .i64 h, .slice a zss.length c], .int .i64 k] w (GivesFC w (minOf true h zss k)) := by
  have hB0 := (Below.refl w.heap.size w).alloc (Nat.le_refl _) (.cells #[.int .i64 h, .slice a zss.length c] 27)
  have hB1 := hB0.alloc (by simp) (.cells #[.int .i64 0, .slice none 0 0] 27)
  have hbox0 : FamBox (w.alloc (.cells #[.int .i64 h, .slice a zss.length c] 27)) w.heap.size h a zss.length c := ⟨by simp, by simp⟩
  have hbox := hbox0.below ((Below.refl _ _).alloc (Nat.le_refl _) (.cells #[.int .i64 0, .slice none 0 0] 27)) (Nat.le_refl _)
  have hF0 : Boxes1 ((w.alloc (.cells #[.int .i64 h, .slice a zss.length c] 27)).alloc (.cells #[.int .i64 0, .slice none 0 0] 27)) (w.heap.size + 1) := by
    have := World.alloc_heap_new (w.alloc (.cells #[.int .i64 h, .slice a zss.length c] 27)) (.cells #[.int .i64 0, .slice none 0 0] 27)
    simpa [Boxes1] using this
  have HA := Lib.hid (hr.step hB1)
  have HX := Lib.hid hbox
  have HL := Lib.hid hl.lens
  have HB := Lib.hid hB1
  have HF := Lib.hid hF0
  clear hr hl hB0 hB1 hbox hbox0 hF0
  go_enter Tryd.func46, Tryd.ntmps46
  go_wp2_with fail
  generalize (w.alloc (.cells #[.int .i64 h, .slice a zss.length c] 27)).alloc (.cells #[.int .i64 0, .slice none 0 0] 27) = w1 at *
  refine (l01Minor_any true h w.heap.size a zss c k w1 HX.out HA.out HL.out wf).mono ?_
  rintro e w3 ⟨⟨a2, c2, rfl, hrows⟩, hb⟩
  have hszr := HF.out.lt
  have hf' := HF.out.step hb
  have c0 := hf'.c0
  have c1 := hf'.c1
  have f0 := hf'.f 0
  have f1 := hf'.f 1
  have HRR := Lib.hid hrows
  have HB3 := Lib.hid (chain HB.out hb)
  clear hrows hb hf'
  obtain ⟨R, hR⟩ : ∃ R, minOf true h zss k = R := ⟨_, rfl⟩
  rw [hR] at HRR ⊢
  obtain ⟨rh, rz, rc⟩ := R
  dsimp only at HRR ⊢
  have HRV := Lib.hid hR
  clear hR
  go_wp2_with fail
  refine bodyPost_ret (v := .tuple #[.agg #[.int .i64 rh, .slice a2 rz.length c2], .int .i64 rc]) (by simp [results, Tryd.results46, go_sem, c0, c1]) rfl ?_
  rw [HRV.out]
  exact ⟨⟨a2, c2, rfl, ((HRR.out.set hszr 0 _).set hszr 1 _).mono (by have := HB.out.size; omega)⟩, (HB3.out.setCell (by simp <;> omega) _).setCell (by simp <;> omega) _⟩

set_option maxHeartbeats 1000000 in
set_option maxRecDepth 100000 in
theorem implTr_any (h : Int) (a : Option Addr) (zss : List (List Int)) (c : Nat) (k : Int) (w : World) (hr : Rows2 w a zss) (hl : Small2 zss) (wf : (Lit.int .i64 k).wf = true) : Calls Tryd.prog 47 #[.agg #[.int .i64 h, .slice a zss.length c], .int .i64 k] w (GivesFO w (minOf true h zss k)) := by
  have hB0 := (Below.refl w.heap.size w).alloc (Nat.le_refl _) (.cells #[.int .i64 h, .slice a zss.length c] 27)
  have hB1 := hB0.alloc (by simp) (.cells #[.int .i64 k] 2)
  have hB2 := hB1.alloc (by simp; omega) (.cells #[.int .i64 0, .slice none 0 0] 27)
  have d0 : (((w.alloc (.cells #[.int .i64 h, .slice a zss.length c] 27)).alloc (.cells #[.int .i64 k] 2)).alloc (.cells #[.int .i64 0, .slice none 0 0] 27)).cell? ⟨w.heap.size, 0, none⟩ = some (.int .i64 h) := by simp [go_sem]
  have d1 : (((w.alloc (.cells #[.int .i64 h, .slice a zss.length c] 27)).alloc (.cells #[.int .i64 k] 2)).alloc (.cells #[.int .i64 0, .slice none 0 0] 27)).cell? ⟨w.heap.size + 1, 0, none⟩ = some (.int .i64 k) := by simp [go_sem]
  have hF0 : Boxes1 (((w.alloc (.cells #[.int .i64 h, .slice a zss.length c] 27)).alloc (.cells #[.int .i64 k] 2)).alloc (.cells #[.int .i64 0, .slice none 0 0] 27)) (w.heap.size + 1 + 1) := by
    have := World.alloc_heap_new ((w.alloc (.cells #[.int .i64 h, .slice a zss.length c] 27)).alloc (.cells #[.int .i64 k] 2)) (.cells #[.int .i64 0, .slice none 0 0] 27)
    simpa [Boxes1] using this
  have HA := Lib.hid (hr.step hB2)
  have HL := Lib.hid hl
  have HB := Lib.hid hB2
  have HF := Lib.hid hF0
  have hlt := hF0.lt
  clear hr hl hB0 hB1 hB2 hF0
  go_enter Tryd.func47, Tryd.ntmps47
  go_wp2_with fail
  generalize ((w.alloc (.cells #[.int .i64 h, .slice a zss.length c] 27)).alloc (.cells #[.int .i64 k] 2)).alloc (.cells #[.int .i64 0, .slice none 0 0] 27) = w1 at *
  refine (leave_any h a zss c k w1 HA.out HL.out).mono ?_
  rintro e w2 ⟨hcase, hb⟩
  have e0 := (hb.cell (p := ⟨w.heap.size, 0, none⟩) (by show w.heap.size < w1.heap.size; omega)).trans d0
  have e1 := (hb.cell (p := ⟨w.heap.size + 1, 0, none⟩) (by show w.heap.size + 1 < w1.heap.size; omega)).trans d1
  have HF2 := Lib.hid (HF.out.step hb)
  have HB2 := Lib.hid (chain HB.out hb)
  have hs2 := hb.size
  clear hb d0 d1
  rcases hcase with ⟨T, hfo, hk, h1, rfl, htab⟩ | ⟨code, hcode, hmin, rfl⟩
  · have hh1 : 1 ≤ h := hfo.1.1
    have hh7 : h ≤ 7 := hfo.1.2
    obtain ⟨m, rfl⟩ : ∃ m : Nat, h = (m : Int) := ⟨h.toNat, by omega⟩
    obtain ⟨j, rfl⟩ : ∃ j : Nat, k = (j : Int) := ⟨k.toNat, by omega⟩
    have hjm : j < m := by omega
    have m7 : m ≤ 7 := by omega
    obtain ⟨m', hm'⟩ : ∃ m' : Nat, (m : Int) - 1 = (m' : Int) := ⟨m - 1, by omega⟩
    have hmm : m' = m - 1 := by omega
    have hm1 : 1 ≤ m' := by omega
    have hm7 : m' ≤ 7 := by omega
    have HMM := Lib.hid hmm
    have HV := Lib.hid (min_in (tr := true) (zss := zss) hfo hjm (by omega))
    have HQ := Lib.hid (show famOf m' (fun x => tabOf (m : Int) zss (minN true j x)) = famOf m' (minB true j zss) from famOf_congr hm7 fun y hy => by
      show tabOf (m : Int) zss (minN true j y) = tblAt zss zss.length (minN true j y)
      unfold tabOf
      rw [Int.toNat_natCast]
      exact seenBy_all m7 _ (minN_lt true m7 hjm (by rw [← hmm]; exact hy)))
    rw [Int.toNat_natCast] at htab
    have hbT := (Below.refl w2.heap.size w2).alloc (Nat.le_refl _) (.cells #[.pointer (some ⟨T, 0, none⟩)] 88)
    have HTA := Lib.hid (htab.step hbT)
    have HF3 := Lib.hid (HF2.out.step hbT)
    have HB3 := Lib.hid (chain HB2.out hbT)
    have a0 := cell_step hbT e0
    have a1 := cell_step hbT e1
    have aT : (w2.alloc (.cells #[.pointer (some ⟨T, 0, none⟩)] 88)).cell? ⟨w2.heap.size, 0, none⟩ = some (.pointer (some ⟨T, 0, none⟩)) := by simp
    clear hfo hk htab hbT hmm
    go_wp2_with fail
    generalize w2.alloc (.cells #[.pointer (some ⟨T, 0, none⟩)] 88) = w3 at *
    refine (familyWhereC_any m' _ #[] #[.pointer (some ⟨w2.heap.size, 0, none⟩), .pointer (some ⟨w.heap.size + 1, 0, none⟩)] (fun x => tabOf (m : Int) zss (minN true j x)) w3 hm1 hm7 (by have hc := Tr_chooses w2.heap.size (w.heap.size + 1) T m j (tabOf (m : Int) zss) w3 aT a1 HTA.out m7 hjm; rw [← HMM.out] at hc; exact hc)).mono ?_
    rintro e w4 ⟨⟨v, us, rfl, hrow, hrows⟩, hb⟩
    rw [famOf_seen hm7, HQ.out] at hrow hrows
    obtain ⟨va, vc, hva⟩ := rowForm hrow
    subst hva
    have hZ3 := HF3.out.lt
    have hf' := HF3.out.step hb
    have c0 := hf'.c0
    have c1 := hf'.c1
    have f0 := hf'.f 0
    have f1 := hf'.f 1
    have HR := Lib.hid hrow
    have HRS := Lib.hid hrows
    have HB4 := Lib.hid (chain HB3.out hb)
    have hle : w.heap.size ≤ w3.heap.size := HB3.out.size
    clear hrow hrows hb hf' e0 e1 a0 a1 aT
    have hV2 : minOf true (m : Int) zss (j : Int) = ⟨(m' : Nat), famOf m' (minB true j zss), 0⟩ := by rw [HV.out, hm', HMM.out]
    have HV2 := Lib.hid hV2
    clear hV2
    generalize famOf m' (minB true j zss) = Z at *
    go_wp2_with fail
    refine bodyPost_ret (v := .tuple #[.agg #[.int .i64 (m' : Nat), .slice va Z.length vc], .int .i64 0]) (by simp [results, Tryd.results47, go_sem, c0, c1]) rfl ?_
    rw [HV2.out]
    exact ⟨⟨_, us, rfl, ownsRow_mono (row_set (row_set HR.out hZ3 _) hZ3 _) hle, (HRS.out.map fun u zs hu => row_set (row_set hu hZ3 _) hZ3 _).mono hle⟩, (HB4.out.setCell (by simp <;> omega) _).setCell (by simp <;> omega) _⟩
  · have HV := Lib.hid (hmin true)
    have hbT := (Below.refl w2.heap.size w2).alloc (Nat.le_refl _) (.cells #[.pointer none] 88)
    have hf' := HF2.out.step hbT
    have c0 := hf'.c0
    have c1 := hf'.c1
    have f0 := hf'.f 0
    have f1 := hf'.f 1
    have HB3 := Lib.hid (chain HB2.out hbT)
    clear hmin hbT hf' e0 e1
    rcases hcode with rfl | rfl | rfl
    all_goals
      go_wp2_with fail
      generalize w2.alloc (.cells #[.pointer none] 88) = w3 at *
      refine bodyPost_ret (v := .tuple #[.agg #[.int .i64 0, .slice none 0 0], .int .i64 _]) (by simp [results, Tryd.results47, go_sem, c0, c1]; rfl) rfl ?_
      rw [HV.out]
      exact GivesFO.no _ ((HB3.out.setCell (by simp <;> omega) _).setCell (by simp <;> omega) _)
end Go.Proofs.YtpkflamhniidiaaDoor

/- EitherFamily and BothFamilies, the model's and the program's: the functions. -/
import Derived.Test.YteifllengcacbaaDoorPair
namespace Go.Proofs.YteifllengcacbaaDoor
open Go.RowKit Go.Deep Go.Shelf
set_option linter.unusedVariables false

set_option maxRecDepth 100000 in
theorem Ei_chooses (B C T1 T2 m : Nat) (p q : Nat → Bool) (w : World) (hB : w.cell? ⟨B, 0, none⟩ = some (.pointer (some ⟨T1, 0, none⟩))) (hC : w.cell? ⟨C, 0, none⟩ = some (.pointer (some ⟨T2, 0, none⟩))) (ht1 : TableAt w T1 m p) (ht2 : TableAt w T2 m q) :
    Chooses w 55 #[] #[.pointer (some ⟨B, 0, none⟩), .pointer (some ⟨C, 0, none⟩)] (fun x => cond false (p x && q x) (p x || q x)) := by
  refine ⟨enters_of Tryd.func55 (by kernel_rfl) rfl, fun x W hb => ?_⟩
  have hBW := cell_step hb hB
  have hCW := cell_step hb hC
  have HT1 := Lib.hid (ht1.below hb (World.block_lt_of_cell? _ _ ht1.h0))
  have HT2 := Lib.hid (ht2.below hb (World.block_lt_of_cell? _ _ ht2.h0))
  have hx := x.isLt
  clear hb hB hC ht1 ht2
  show Calls Tryd.prog 55 #[.int .u64 (x.val : Int), .pointer (some ⟨B, 0, none⟩), .pointer (some ⟨C, 0, none⟩)] W _
  generalize x.val = y at *
  obtain ⟨u, hu⟩ : ∃ u, p y = u := ⟨_, rfl⟩
  obtain ⟨v, hv⟩ : ∃ v, q y = v := ⟨_, rfl⟩
  have HC1 := Lib.hid (opens_any T1 m y p W hx HT1.out)
  have HC2 := Lib.hid (opens_any T2 m y q W hx HT2.out)
  rw [hu] at HC1
  rw [hv] at HC2
  have HR := Lib.hid (show cond false (p y && q y) (p y || q y) = cond false (u && v) (u || v) by rw [hu, hv])
  clear hu hv
  cases u <;> cases v
  all_goals
    go_enter Tryd.func55, Tryd.ntmps55
    go_wp2_with (first | (go_at_call_of 47 T1; refine HC1.out.mono ?_; rintro e w' ⟨rfl, rfl⟩) | (go_at_call_of 47 T2; refine HC2.out.mono ?_; rintro e w' ⟨rfl, rfl⟩))
    go_ret
    exact ⟨ret_bool HR.out.symm, Below.refl _ _⟩

set_option maxHeartbeats 1000000 in
set_option maxRecDepth 100000 in
theorem implEi_any (h1 : Int) (a1 : Option Addr) (z1 : List (List Int)) (c1 : Nat) (h2 : Int) (a2 : Option Addr) (z2 : List (List Int)) (c2 : Nat) (w : World) (hr1 : Rows2 w a1 z1) (hs1 : Small2 z1) (hr2 : Rows2 w a2 z2) (hs2 : Small2 z2) :
    Calls Tryd.prog 25 #[.agg #[.int .i64 h1, .slice a1 z1.length c1], .agg #[.int .i64 h2, .slice a2 z2.length c2]] w (GivesFO w (pairOf false h1 z1 h2 z2)) := by
  have hB1 := ((Below.refl w.heap.size w).alloc (Nat.le_refl _) (.cells #[.int .i64 h1, .slice a1 z1.length c1] 26)).alloc (by simp) (.cells #[.int .i64 h2, .slice a2 z2.length c2] 26)
  have hB2 := hB1.alloc (by simp; omega) (.cells #[.int .i64 0, .slice none 0 0] 26)
  have d0 : (((w.alloc (.cells #[.int .i64 h1, .slice a1 z1.length c1] 26)).alloc (.cells #[.int .i64 h2, .slice a2 z2.length c2] 26)).alloc (.cells #[.int .i64 0, .slice none 0 0] 26)).cell? ⟨w.heap.size, 0, none⟩ = some (.int .i64 h1) := by simp [go_sem]
  have hF0 : Boxes1 (((w.alloc (.cells #[.int .i64 h1, .slice a1 z1.length c1] 26)).alloc (.cells #[.int .i64 h2, .slice a2 z2.length c2] 26)).alloc (.cells #[.int .i64 0, .slice none 0 0] 26)) (w.heap.size + 1 + 1) := by
    have := World.alloc_heap_new ((w.alloc (.cells #[.int .i64 h1, .slice a1 z1.length c1] 26)).alloc (.cells #[.int .i64 h2, .slice a2 z2.length c2] 26)) (.cells #[.int .i64 0, .slice none 0 0] 26)
    simpa [Boxes1] using this
  have R1 := Lib.hid (hr1.step hB2)
  have R2 := Lib.hid (hr2.step hB2)
  have HB := Lib.hid hB2
  have HF := Lib.hid hF0
  have hlt := hF0.lt
  clear hr1 hr2 hB1 hB2 hF0
  go_enter Tryd.func25, Tryd.ntmps25
  go_wp2_with fail
  generalize ((w.alloc (.cells #[.int .i64 h1, .slice a1 z1.length c1] 26)).alloc (.cells #[.int .i64 h2, .slice a2 z2.length c2] 26)).alloc (.cells #[.int .i64 0, .slice none 0 0] 26) = w1 at *
  refine (twoTables_any h1 a1 z1 c1 h2 a2 z2 c2 w1 R1.out hs1 R2.out hs2).mono ?_
  rintro e w2 ⟨htwo, hrange, hbad, hb⟩
  have e0 := (hb.cell (p := ⟨w.heap.size, 0, none⟩) (by show w.heap.size < w1.heap.size; omega)).trans d0
  have HF2 := Lib.hid (HF.out.step hb)
  have HB2 := Lib.hid (chain HB.out hb)
  have hs2' := hb.size
  clear hb d0
  by_cases hok : FamOk h1 z1 ∧ FamOk h2 z2
  case neg =>
    obtain rfl := hbad hok
    have HV := Lib.hid (pairOf_bad (both := false) hok)
    have hbT := ((Below.refl w2.heap.size w2).alloc (Nat.le_refl _) (.cells #[.pointer none] 57)).alloc (by simp) (.cells #[.pointer none] 57)
    have hf' := HF2.out.step hbT
    have c0 := hf'.c0
    have c1' := hf'.c1
    have f0 := hf'.f 0
    have f1 := hf'.f 1
    have HB3 := Lib.hid (chain HB2.out hbT)
    clear htwo hrange hbad hok hbT hf' e0
    go_wp2_with fail
    generalize (w2.alloc (.cells #[.pointer none] 57)).alloc (.cells #[.pointer none] 57) = w3 at *
    refine bodyPost_ret (v := .tuple #[.agg #[.int .i64 0, .slice none 0 0], .int .i64 1]) (by simp [results, Tryd.results25, go_sem, c0, c1']) rfl ?_
    rw [HV.out]
    exact GivesFO.no _ ((HB3.out.setCell (by simp <;> omega) _).setCell (by simp <;> omega) _)
  by_cases heq : h1 = h2
  case neg =>
    obtain rfl := hrange hok.1 hok.2 heq
    have HV := Lib.hid (pairOf_range (both := false) hok.1 hok.2 heq)
    have hbT := ((Below.refl w2.heap.size w2).alloc (Nat.le_refl _) (.cells #[.pointer none] 57)).alloc (by simp) (.cells #[.pointer none] 57)
    have hf' := HF2.out.step hbT
    have c0 := hf'.c0
    have c1' := hf'.c1
    have f0 := hf'.f 0
    have f1 := hf'.f 1
    have HB3 := Lib.hid (chain HB2.out hbT)
    clear htwo hrange hbad hok heq hbT hf' e0
    go_wp2_with fail
    generalize (w2.alloc (.cells #[.pointer none] 57)).alloc (.cells #[.pointer none] 57) = w3 at *
    refine bodyPost_ret (v := .tuple #[.agg #[.int .i64 0, .slice none 0 0], .int .i64 2]) (by simp [results, Tryd.results25, go_sem, c0, c1']) rfl ?_
    rw [HV.out]
    exact GivesFO.no _ ((HB3.out.setCell (by simp <;> omega) _).setCell (by simp <;> omega) _)
  obtain ⟨T1, T2, rfl, ht1, ht2⟩ := htwo hok.1 hok.2 heq
  subst heq
  have hh1 : 1 ≤ h1 := hok.1.1.1
  have hh7 : h1 ≤ 7 := hok.1.1.2
  obtain ⟨m, rfl⟩ : ∃ m : Nat, h1 = (m : Int) := ⟨h1.toNat, by omega⟩
  have m1 : 1 ≤ m := by omega
  have m7 : m ≤ 7 := by omega
  have HV := Lib.hid (pairOf_yes (both := false) hok.1 hok.2)
  have HQ := Lib.hid (show famOf m (fun x => cond false (tabOf (m : Int) z1 x && tabOf (m : Int) z2 x) (tabOf (m : Int) z1 x || tabOf (m : Int) z2 x)) = famOf m (pairB false z1 z2) from famOf_congr m7 fun y hy => by
    have e1 : tabOf (m : Int) z1 y = tblAt z1 z1.length y := by
      unfold tabOf
      rw [Int.toNat_natCast]
      exact seenBy_all m7 _ hy
    have e2 : tabOf (m : Int) z2 y = tblAt z2 z2.length y := by
      unfold tabOf
      rw [Int.toNat_natCast]
      exact seenBy_all m7 _ hy
    show cond false (tabOf (m : Int) z1 y && tabOf (m : Int) z2 y) (tabOf (m : Int) z1 y || tabOf (m : Int) z2 y) = pairB false z1 z2 y
    rw [e1, e2]
    rfl)
  rw [Int.toNat_natCast] at ht1 ht2
  have hbT := ((Below.refl w2.heap.size w2).alloc (Nat.le_refl _) (.cells #[.pointer (some ⟨T1, 0, none⟩)] 57)).alloc (by simp) (.cells #[.pointer (some ⟨T2, 0, none⟩)] 57)
  have HT1 := Lib.hid (ht1.step hbT)
  have HT2 := Lib.hid (ht2.step hbT)
  have HF3 := Lib.hid (HF2.out.step hbT)
  have HB3 := Lib.hid (chain HB2.out hbT)
  have g0 := cell_step hbT e0
  have bT : ((w2.alloc (.cells #[.pointer (some ⟨T1, 0, none⟩)] 57)).alloc (.cells #[.pointer (some ⟨T2, 0, none⟩)] 57)).cell? ⟨w2.heap.size, 0, none⟩ = some (.pointer (some ⟨T1, 0, none⟩)) := by simp [go_sem]
  have cT : ((w2.alloc (.cells #[.pointer (some ⟨T1, 0, none⟩)] 57)).alloc (.cells #[.pointer (some ⟨T2, 0, none⟩)] 57)).cell? ⟨w2.heap.size + 1, 0, none⟩ = some (.pointer (some ⟨T2, 0, none⟩)) := by simp [go_sem]
  clear htwo hrange hbad hok ht1 ht2 hbT e0
  go_wp2_with fail
  generalize (w2.alloc (.cells #[.pointer (some ⟨T1, 0, none⟩)] 57)).alloc (.cells #[.pointer (some ⟨T2, 0, none⟩)] 57) = w3 at *
  refine (familyWhere_any m _ #[] #[.pointer (some ⟨w2.heap.size, 0, none⟩), .pointer (some ⟨w2.heap.size + 1, 0, none⟩)] _ w3 m1 m7 (Ei_chooses w2.heap.size (w2.heap.size + 1) T1 T2 m (tabOf (m : Int) z1) (tabOf (m : Int) z2) w3 bT cT HT1.out HT2.out)).mono ?_
  rintro e w4 ⟨⟨v, us, rfl, hrow, hrows⟩, hb⟩
  rw [famOf_seen m7, HQ.out] at hrow hrows
  obtain ⟨va, vc, hva⟩ := rowForm hrow
  subst hva
  have hZ3 := HF3.out.lt
  have hf' := HF3.out.step hb
  have c0 := hf'.c0
  have c1' := hf'.c1
  have f0 := hf'.f 0
  have f1 := hf'.f 1
  have HR := Lib.hid hrow
  have HRS := Lib.hid hrows
  have HB4 := Lib.hid (chain HB3.out hb)
  have hle : w.heap.size ≤ w3.heap.size := HB3.out.size
  clear hrow hrows hb hf' g0 bT cT
  generalize famOf m (pairB false z1 z2) = Z at *
  go_wp2_with fail
  refine bodyPost_ret (v := .tuple #[.agg #[.int .i64 (m : Nat), .slice va Z.length vc], .int .i64 0]) (by simp [results, Tryd.results25, go_sem, c0, c1']) rfl ?_
  rw [HV.out]
  exact ⟨⟨_, us, rfl, ownsRow_mono (row_set (row_set HR.out hZ3 _) hZ3 _) hle, (HRS.out.map fun u zs hu => row_set (row_set hu hZ3 _) hZ3 _).mono hle⟩, (HB4.out.setCell (by simp <;> omega) _).setCell (by simp <;> omega) _⟩

set_option maxRecDepth 100000 in
theorem Bo_chooses (B C T1 T2 m : Nat) (p q : Nat → Bool) (w : World) (hB : w.cell? ⟨B, 0, none⟩ = some (.pointer (some ⟨T1, 0, none⟩))) (hC : w.cell? ⟨C, 0, none⟩ = some (.pointer (some ⟨T2, 0, none⟩))) (ht1 : TableAt w T1 m p) (ht2 : TableAt w T2 m q) :
    Chooses w 56 #[] #[.pointer (some ⟨B, 0, none⟩), .pointer (some ⟨C, 0, none⟩)] (fun x => cond true (p x && q x) (p x || q x)) := by
  refine ⟨enters_of Tryd.func56 (by kernel_rfl) rfl, fun x W hb => ?_⟩
  have hBW := cell_step hb hB
  have hCW := cell_step hb hC
  have HT1 := Lib.hid (ht1.below hb (World.block_lt_of_cell? _ _ ht1.h0))
  have HT2 := Lib.hid (ht2.below hb (World.block_lt_of_cell? _ _ ht2.h0))
  have hx := x.isLt
  clear hb hB hC ht1 ht2
  show Calls Tryd.prog 56 #[.int .u64 (x.val : Int), .pointer (some ⟨B, 0, none⟩), .pointer (some ⟨C, 0, none⟩)] W _
  generalize x.val = y at *
  obtain ⟨u, hu⟩ : ∃ u, p y = u := ⟨_, rfl⟩
  obtain ⟨v, hv⟩ : ∃ v, q y = v := ⟨_, rfl⟩
  have HC1 := Lib.hid (opens_any T1 m y p W hx HT1.out)
  have HC2 := Lib.hid (opens_any T2 m y q W hx HT2.out)
  rw [hu] at HC1
  rw [hv] at HC2
  have HR := Lib.hid (show cond true (p y && q y) (p y || q y) = cond true (u && v) (u || v) by rw [hu, hv])
  clear hu hv
  cases u <;> cases v
  all_goals
    go_enter Tryd.func56, Tryd.ntmps56
    go_wp2_with (first | (go_at_call_of 47 T1; refine HC1.out.mono ?_; rintro e w' ⟨rfl, rfl⟩) | (go_at_call_of 47 T2; refine HC2.out.mono ?_; rintro e w' ⟨rfl, rfl⟩))
    go_ret
    exact ⟨ret_bool HR.out.symm, Below.refl _ _⟩

set_option maxHeartbeats 1000000 in
set_option maxRecDepth 100000 in
theorem implBo_any (h1 : Int) (a1 : Option Addr) (z1 : List (List Int)) (c1 : Nat) (h2 : Int) (a2 : Option Addr) (z2 : List (List Int)) (c2 : Nat) (w : World) (hr1 : Rows2 w a1 z1) (hs1 : Small2 z1) (hr2 : Rows2 w a2 z2) (hs2 : Small2 z2) :
    Calls Tryd.prog 26 #[.agg #[.int .i64 h1, .slice a1 z1.length c1], .agg #[.int .i64 h2, .slice a2 z2.length c2]] w (GivesFO w (pairOf true h1 z1 h2 z2)) := by
  have hB1 := ((Below.refl w.heap.size w).alloc (Nat.le_refl _) (.cells #[.int .i64 h1, .slice a1 z1.length c1] 26)).alloc (by simp) (.cells #[.int .i64 h2, .slice a2 z2.length c2] 26)
  have hB2 := hB1.alloc (by simp; omega) (.cells #[.int .i64 0, .slice none 0 0] 26)
  have d0 : (((w.alloc (.cells #[.int .i64 h1, .slice a1 z1.length c1] 26)).alloc (.cells #[.int .i64 h2, .slice a2 z2.length c2] 26)).alloc (.cells #[.int .i64 0, .slice none 0 0] 26)).cell? ⟨w.heap.size, 0, none⟩ = some (.int .i64 h1) := by simp [go_sem]
  have hF0 : Boxes1 (((w.alloc (.cells #[.int .i64 h1, .slice a1 z1.length c1] 26)).alloc (.cells #[.int .i64 h2, .slice a2 z2.length c2] 26)).alloc (.cells #[.int .i64 0, .slice none 0 0] 26)) (w.heap.size + 1 + 1) := by
    have := World.alloc_heap_new ((w.alloc (.cells #[.int .i64 h1, .slice a1 z1.length c1] 26)).alloc (.cells #[.int .i64 h2, .slice a2 z2.length c2] 26)) (.cells #[.int .i64 0, .slice none 0 0] 26)
    simpa [Boxes1] using this
  have R1 := Lib.hid (hr1.step hB2)
  have R2 := Lib.hid (hr2.step hB2)
  have HB := Lib.hid hB2
  have HF := Lib.hid hF0
  have hlt := hF0.lt
  clear hr1 hr2 hB1 hB2 hF0
  go_enter Tryd.func26, Tryd.ntmps26
  go_wp2_with fail
  generalize ((w.alloc (.cells #[.int .i64 h1, .slice a1 z1.length c1] 26)).alloc (.cells #[.int .i64 h2, .slice a2 z2.length c2] 26)).alloc (.cells #[.int .i64 0, .slice none 0 0] 26) = w1 at *
  refine (twoTables_any h1 a1 z1 c1 h2 a2 z2 c2 w1 R1.out hs1 R2.out hs2).mono ?_
  rintro e w2 ⟨htwo, hrange, hbad, hb⟩
  have e0 := (hb.cell (p := ⟨w.heap.size, 0, none⟩) (by show w.heap.size < w1.heap.size; omega)).trans d0
  have HF2 := Lib.hid (HF.out.step hb)
  have HB2 := Lib.hid (chain HB.out hb)
  have hs2' := hb.size
  clear hb d0
  by_cases hok : FamOk h1 z1 ∧ FamOk h2 z2
  case neg =>
    obtain rfl := hbad hok
    have HV := Lib.hid (pairOf_bad (both := true) hok)
    have hbT := ((Below.refl w2.heap.size w2).alloc (Nat.le_refl _) (.cells #[.pointer none] 57)).alloc (by simp) (.cells #[.pointer none] 57)
    have hf' := HF2.out.step hbT
    have c0 := hf'.c0
    have c1' := hf'.c1
    have f0 := hf'.f 0
    have f1 := hf'.f 1
    have HB3 := Lib.hid (chain HB2.out hbT)
    clear htwo hrange hbad hok hbT hf' e0
    go_wp2_with fail
    generalize (w2.alloc (.cells #[.pointer none] 57)).alloc (.cells #[.pointer none] 57) = w3 at *
    refine bodyPost_ret (v := .tuple #[.agg #[.int .i64 0, .slice none 0 0], .int .i64 1]) (by simp [results, Tryd.results26, go_sem, c0, c1']) rfl ?_
    rw [HV.out]
    exact GivesFO.no _ ((HB3.out.setCell (by simp <;> omega) _).setCell (by simp <;> omega) _)
  by_cases heq : h1 = h2
  case neg =>
    obtain rfl := hrange hok.1 hok.2 heq
    have HV := Lib.hid (pairOf_range (both := true) hok.1 hok.2 heq)
    have hbT := ((Below.refl w2.heap.size w2).alloc (Nat.le_refl _) (.cells #[.pointer none] 57)).alloc (by simp) (.cells #[.pointer none] 57)
    have hf' := HF2.out.step hbT
    have c0 := hf'.c0
    have c1' := hf'.c1
    have f0 := hf'.f 0
    have f1 := hf'.f 1
    have HB3 := Lib.hid (chain HB2.out hbT)
    clear htwo hrange hbad hok heq hbT hf' e0
    go_wp2_with fail
    generalize (w2.alloc (.cells #[.pointer none] 57)).alloc (.cells #[.pointer none] 57) = w3 at *
    refine bodyPost_ret (v := .tuple #[.agg #[.int .i64 0, .slice none 0 0], .int .i64 2]) (by simp [results, Tryd.results26, go_sem, c0, c1']) rfl ?_
    rw [HV.out]
    exact GivesFO.no _ ((HB3.out.setCell (by simp <;> omega) _).setCell (by simp <;> omega) _)
  obtain ⟨T1, T2, rfl, ht1, ht2⟩ := htwo hok.1 hok.2 heq
  subst heq
  have hh1 : 1 ≤ h1 := hok.1.1.1
  have hh7 : h1 ≤ 7 := hok.1.1.2
  obtain ⟨m, rfl⟩ : ∃ m : Nat, h1 = (m : Int) := ⟨h1.toNat, by omega⟩
  have m1 : 1 ≤ m := by omega
  have m7 : m ≤ 7 := by omega
  have HV := Lib.hid (pairOf_yes (both := true) hok.1 hok.2)
  have HQ := Lib.hid (show famOf m (fun x => cond true (tabOf (m : Int) z1 x && tabOf (m : Int) z2 x) (tabOf (m : Int) z1 x || tabOf (m : Int) z2 x)) = famOf m (pairB true z1 z2) from famOf_congr m7 fun y hy => by
    have e1 : tabOf (m : Int) z1 y = tblAt z1 z1.length y := by
      unfold tabOf
      rw [Int.toNat_natCast]
      exact seenBy_all m7 _ hy
    have e2 : tabOf (m : Int) z2 y = tblAt z2 z2.length y := by
      unfold tabOf
      rw [Int.toNat_natCast]
      exact seenBy_all m7 _ hy
    show cond true (tabOf (m : Int) z1 y && tabOf (m : Int) z2 y) (tabOf (m : Int) z1 y || tabOf (m : Int) z2 y) = pairB true z1 z2 y
    rw [e1, e2]
    rfl)
  rw [Int.toNat_natCast] at ht1 ht2
  have hbT := ((Below.refl w2.heap.size w2).alloc (Nat.le_refl _) (.cells #[.pointer (some ⟨T1, 0, none⟩)] 57)).alloc (by simp) (.cells #[.pointer (some ⟨T2, 0, none⟩)] 57)
  have HT1 := Lib.hid (ht1.step hbT)
  have HT2 := Lib.hid (ht2.step hbT)
  have HF3 := Lib.hid (HF2.out.step hbT)
  have HB3 := Lib.hid (chain HB2.out hbT)
  have g0 := cell_step hbT e0
  have bT : ((w2.alloc (.cells #[.pointer (some ⟨T1, 0, none⟩)] 57)).alloc (.cells #[.pointer (some ⟨T2, 0, none⟩)] 57)).cell? ⟨w2.heap.size, 0, none⟩ = some (.pointer (some ⟨T1, 0, none⟩)) := by simp [go_sem]
  have cT : ((w2.alloc (.cells #[.pointer (some ⟨T1, 0, none⟩)] 57)).alloc (.cells #[.pointer (some ⟨T2, 0, none⟩)] 57)).cell? ⟨w2.heap.size + 1, 0, none⟩ = some (.pointer (some ⟨T2, 0, none⟩)) := by simp [go_sem]
  clear htwo hrange hbad hok ht1 ht2 hbT e0
  go_wp2_with fail
  generalize (w2.alloc (.cells #[.pointer (some ⟨T1, 0, none⟩)] 57)).alloc (.cells #[.pointer (some ⟨T2, 0, none⟩)] 57) = w3 at *
  refine (familyWhere_any m _ #[] #[.pointer (some ⟨w2.heap.size, 0, none⟩), .pointer (some ⟨w2.heap.size + 1, 0, none⟩)] _ w3 m1 m7 (Bo_chooses w2.heap.size (w2.heap.size + 1) T1 T2 m (tabOf (m : Int) z1) (tabOf (m : Int) z2) w3 bT cT HT1.out HT2.out)).mono ?_
  rintro e w4 ⟨⟨v, us, rfl, hrow, hrows⟩, hb⟩
  rw [famOf_seen m7, HQ.out] at hrow hrows
  obtain ⟨va, vc, hva⟩ := rowForm hrow
  subst hva
  have hZ3 := HF3.out.lt
  have hf' := HF3.out.step hb
  have c0 := hf'.c0
  have c1' := hf'.c1
  have f0 := hf'.f 0
  have f1 := hf'.f 1
  have HR := Lib.hid hrow
  have HRS := Lib.hid hrows
  have HB4 := Lib.hid (chain HB3.out hb)
  have hle : w.heap.size ≤ w3.heap.size := HB3.out.size
  clear hrow hrows hb hf' g0 bT cT
  generalize famOf m (pairB true z1 z2) = Z at *
  go_wp2_with fail
  refine bodyPost_ret (v := .tuple #[.agg #[.int .i64 (m : Nat), .slice va Z.length vc], .int .i64 0]) (by simp [results, Tryd.results26, go_sem, c0, c1']) rfl ?_
  rw [HV.out]
  exact ⟨⟨_, us, rfl, ownsRow_mono (row_set (row_set HR.out hZ3 _) hZ3 _) hle, (HRS.out.map fun u zs hu => row_set (row_set hu hZ3 _) hZ3 _).mono hle⟩, (HB4.out.setCell (by simp <;> omega) _).setCell (by simp <;> omega) _⟩
end Go.Proofs.YteifllengcacbaaDoor

/- RenameHolders, the program's. -/
import Derived.Test.YtnalbonnjcphkaaDoorOrd
namespace Go.Proofs.YtnalbonnjcphkaaDoor
open Go.RowKit Go.Deep Go.Shelf
set_option linter.unusedVariables false

/-- What opens for the renamed. -/
def renB (zs : List Int) (zss : List (List Int)) (m y : Nat) : Bool := anyIn (bitsUpTo zss zss.length) (psiN (oOf zs) y m)
noncomputable def renOf (h : Int) (zss : List (List Int)) (zs : List Int) : FR :=
  if tell (FamOk h zss) = true then (if tell (OrdOk h zs) = true then ⟨h, famOf h.toNat (renB zs zss h.toNat), 0⟩ else noFam 2) else noFam 1
theorem ren_bad {h : Int} {zss : List (List Int)} {zs : List Int} (k : ¬ FamOk h zss) : renOf h zss zs = noFam 1 := by rw [renOf, if_neg (by rw [tell_false k]; simp)]
theorem ren_out {h : Int} {zss : List (List Int)} {zs : List Int} (k : FamOk h zss) (o : ¬ OrdOk h zs) : renOf h zss zs = noFam 2 := by rw [renOf, if_pos (tell_true k), if_neg (by rw [tell_false o]; simp)]
theorem ren_yes {m : Nat} {zss : List (List Int)} {zs : List Int} (k : FamOk (m : Int) zss) (o : OrdOk (m : Int) zs) : renOf (m : Int) zss zs = ⟨(m : Nat), famOf m (renB zs zss m), 0⟩ := by rw [renOf, if_pos (tell_true k), if_pos (tell_true o), Int.toNat_natCast]
theorem ren_small (h : Int) (zss : List (List Int)) (zs : List Int) : Small2 (renOf h zss zs).zss := by
  unfold renOf
  split
  · rename_i k
    have := (of_tell k).1
    split
    · exact famOf_small (by omega) _
    · exact lens_small (by simp [noFam]) (by simp [noFam])
  · exact lens_small (by simp [noFam]) (by simp [noFam])
theorem ren_bounds {m : Nat} {zs : List Int} (h7 : m ≤ 7) (o : OrdOk (m : Int) zs) : zs.length = m ∧ ∀ i, i < zs.length → 0 ≤ nth zs i ∧ nth zs i ≤ 6 :=
  ⟨by have := o.1; omega, fun i hi => by have := o.2.1 i hi; omega⟩

set_option maxHeartbeats 1000000 in
set_option maxRecDepth 100000 in
theorem implRe_any (h : Int) (a : Option Addr) (zss : List (List Int)) (c : Nat) (b : Option Addr) (zs : List Int) (d : Nat) (w : World) (hr : Rows2 w a zss) (hl : Small2 zss) (hi : Ints w b zs) (hil : zs.length ≤ 1048576) :
    Calls Tryd.prog 20 #[.agg #[.int .i64 h, .slice a zss.length c], .slice b zs.length d] w (GivesFO w (renOf h zss zs)) := by
  have hB0 := (Below.refl w.heap.size w).alloc (Nat.le_refl _) (.cells #[.int .i64 h, .slice a zss.length c] 26)
  have hB1 := hB0.alloc (by simp) (.cells #[.slice b zs.length d] 33)
  have hB2 := hB1.alloc (by simp; omega) (.cells #[.int .i64 0, .slice none 0 0] 26)
  have d0 : (((w.alloc (.cells #[.int .i64 h, .slice a zss.length c] 26)).alloc (.cells #[.slice b zs.length d] 33)).alloc (.cells #[.int .i64 0, .slice none 0 0] 26)).cell? ⟨w.heap.size, 0, none⟩ = some (.int .i64 h) := by simp [go_sem]
  have d1 : (((w.alloc (.cells #[.int .i64 h, .slice a zss.length c] 26)).alloc (.cells #[.slice b zs.length d] 33)).alloc (.cells #[.int .i64 0, .slice none 0 0] 26)).cell? ⟨w.heap.size + 1, 0, none⟩ = some (.slice b zs.length d) := by simp [go_sem]
  have hF0 : Boxes1 (((w.alloc (.cells #[.int .i64 h, .slice a zss.length c] 26)).alloc (.cells #[.slice b zs.length d] 33)).alloc (.cells #[.int .i64 0, .slice none 0 0] 26)) (w.heap.size + 1 + 1) := by
    have := World.alloc_heap_new ((w.alloc (.cells #[.int .i64 h, .slice a zss.length c] 26)).alloc (.cells #[.slice b zs.length d] 33)) (.cells #[.int .i64 0, .slice none 0 0] 26)
    simpa [Boxes1] using this
  have HA := Lib.hid (hr.step hB2)
  have HI := Lib.hid (hi.step hB2)
  have HL := Lib.hid hl
  have HB := Lib.hid hB2
  have HF := Lib.hid hF0
  have hlt := hF0.lt
  clear hr hl hi hB0 hB1 hB2 hF0
  go_enter Tryd.func20, Tryd.ntmps20
  go_wp2_with fail
  generalize ((w.alloc (.cells #[.int .i64 h, .slice a zss.length c] 26)).alloc (.cells #[.slice b zs.length d] 33)).alloc (.cells #[.int .i64 0, .slice none 0 0] 26) = w1 at *
  refine (tableOf_any h a zss c w1 HA.out HL.out).mono ?_
  rintro e w2 ⟨hy, hn, hb⟩
  have e0 := (hb.cell (p := ⟨w.heap.size, 0, none⟩) (by show w.heap.size < w1.heap.size; omega)).trans d0
  have e1 := (hb.cell (p := ⟨w.heap.size + 1, 0, none⟩) (by show w.heap.size + 1 < w1.heap.size; omega)).trans d1
  have HF2 := Lib.hid (HF.out.step hb)
  have HI2 := Lib.hid (HI.out.step hb)
  have HB2 := Lib.hid (chain HB.out hb)
  have hs2 := hb.size
  clear hb d0 d1
  by_cases hok : FamOk h zss
  case neg =>
    obtain rfl := hn hok
    have HV := Lib.hid (ren_bad (zs := zs) hok)
    have hbT := (Below.refl w2.heap.size w2).alloc (Nat.le_refl _) (.cells #[.pointer none] 50)
    have hf' := HF2.out.step hbT
    have c0 := hf'.c0
    have c1' := hf'.c1
    have f0 := hf'.f 0
    have f1 := hf'.f 1
    have HB3 := Lib.hid (chain HB2.out hbT)
    clear hy hn hok hbT hf' e0 e1
    go_wp2_with fail
    generalize w2.alloc (.cells #[.pointer none] 50) = w3 at *
    refine bodyPost_ret (v := .tuple #[.agg #[.int .i64 0, .slice none 0 0], .int .i64 1]) (by simp [results, Tryd.results20, go_sem, c0, c1']) rfl ?_
    rw [HV.out]
    exact GivesFO.no _ ((HB3.out.setCell (by simp <;> omega) _).setCell (by simp <;> omega) _)
  obtain ⟨T, rfl, hT, htab⟩ := hy hok
  have hh1 : 1 ≤ h := hok.1.1
  have hh7 : h ≤ 7 := hok.1.2
  obtain ⟨m, rfl⟩ : ∃ m : Nat, h = (m : Int) := ⟨h.toNat, by omega⟩
  have m1 : 1 ≤ m := by omega
  have m7 : m ≤ 7 := by omega
  rw [Int.toNat_natCast] at htab
  have HFO := Lib.hid hok
  have hbT := (Below.refl w2.heap.size w2).alloc (Nat.le_refl _) (.cells #[.pointer (some ⟨T, 0, none⟩)] 50)
  have HTA := Lib.hid (htab.step hbT)
  have HI3 := Lib.hid (HI2.out.step hbT)
  have HF3 := Lib.hid (HF2.out.step hbT)
  have HB3 := Lib.hid (chain HB2.out hbT)
  have g0 := cell_step hbT e0
  have g1 := cell_step hbT e1
  have bT : (w2.alloc (.cells #[.pointer (some ⟨T, 0, none⟩)] 50)).cell? ⟨w2.heap.size, 0, none⟩ = some (.pointer (some ⟨T, 0, none⟩)) := by simp [go_sem]
  clear hy hn hok htab hbT e0 e1
  go_wp2_with fail
  generalize w2.alloc (.cells #[.pointer (some ⟨T, 0, none⟩)] 50) = w3 at *
  refine (isOrder_any (m : Int) b zs d w3 (by omega) (by omega) HI3.out hil).mono ?_
  rintro e w' ⟨rfl, rfl⟩
  by_cases ho : OrdOk (m : Int) zs
  case neg =>
    have HV := Lib.hid (ren_out HFO.out ho)
    rw [tell_false ho]
    have c0 := HF3.out.c0
    have c1' := HF3.out.c1
    have f0 := HF3.out.f 0
    have f1 := HF3.out.f 1
    clear ho
    go_wp2_with fail
    refine bodyPost_ret (v := .tuple #[.agg #[.int .i64 0, .slice none 0 0], .int .i64 2]) (by simp [results, Tryd.results20, go_sem, c0, c1']) rfl ?_
    rw [HV.out]
    exact GivesFO.no _ ((HB3.out.setCell (by simp <;> omega) _).setCell (by simp <;> omega) _)
  have HV := Lib.hid (ren_yes HFO.out ho)
  obtain ⟨hlm, hz⟩ := ren_bounds m7 ho
  have HQ := Lib.hid (show famOf m (fun x => tabOf (m : Int) zss (psiN (oOf zs) x zs.length)) = famOf m (renB zs zss m) from famOf_congr m7 fun y hy => by
    show tabOf (m : Int) zss (psiN (oOf zs) y zs.length) = anyIn (bitsUpTo zss zss.length) (psiN (oOf zs) y m)
    unfold tabOf
    rw [Int.toNat_natCast, hlm]
    exact seenBy_all m7 _ (psi_lt ho.ord y))
  have HCH := Lib.hid (Ren_chooses w2.heap.size (w.heap.size + 1) T m d b zs (tabOf (m : Int) zss) w3 bT g1 HI3.out HTA.out (by omega) hz)
  rw [tell_true ho]
  clear ho hz bT
  go_wp2_with fail
  refine (familyWhere_any m _ #[] #[.pointer (some ⟨w2.heap.size, 0, none⟩), .pointer (some ⟨w.heap.size + 1, 0, none⟩)] _ w3 m1 m7 HCH.out).mono ?_
  rintro e w4 ⟨⟨v, us, rfl, hrow, hrows⟩, hb⟩
  rw [famOf_seen m7, HQ.out] at hrow hrows
  obtain ⟨va, vc, hva⟩ := rowForm hrow
  subst hva
  have hZ3 := HF3.out.lt
  have hf' := HF3.out.step hb
  have c0 := hf'.c0
  have c1' := hf'.c1
  have f0 := hf'.f 0
  have f1 := hf'.f 1
  have HR := Lib.hid hrow
  have HRS := Lib.hid hrows
  have HB4 := Lib.hid (chain HB3.out hb)
  have hle : w.heap.size ≤ w3.heap.size := HB3.out.size
  clear hrow hrows hb hf' g0 g1
  generalize famOf m (renB zs zss m) = Z at *
  go_wp2_with fail
  refine bodyPost_ret (v := .tuple #[.agg #[.int .i64 (m : Nat), .slice va Z.length vc], .int .i64 0]) (by simp [results, Tryd.results20, go_sem, c0, c1']) rfl ?_
  rw [HV.out]
  exact ⟨⟨_, us, rfl, ownsRow_mono (row_set (row_set HR.out hZ3 _) hZ3 _) hle, (HRS.out.map fun u zs hu => row_set (row_set hu hZ3 _) hZ3 _).mono hle⟩, (HB4.out.setCell (by simp <;> omega) _).setCell (by simp <;> omega) _⟩
end Go.Proofs.YtnalbonnjcphkaaDoor

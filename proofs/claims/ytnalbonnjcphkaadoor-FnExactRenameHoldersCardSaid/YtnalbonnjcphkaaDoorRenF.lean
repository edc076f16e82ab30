/- RenameHolders, the model's. -/
import Derived.Test.YtnalbonnjcphkaaDoorRenS
namespace Go.Proofs.YtnalbonnjcphkaaDoor
open Go.RowKit Go.Deep Go.Shelf
set_option linter.unusedVariables false

set_option maxHeartbeats 1000000 in
set_option maxRecDepth 100000 in
theorem specRe_any (h : Int) (a : Option Addr) (zss : List (List Int)) (c : Nat) (b : Option Addr) (zs : List Int) (d : Nat) (w : World) (hr : Rows2 w a zss) (hl : Small2 zss) (hi : Ints w b zs) (hil : zs.length ≤ 1048576) :
    Calls Tryd.prog 18 #[.agg #[.int .i64 h, .slice a zss.length c], .slice b zs.length d] w (GivesFC w (renOf h zss zs)) := by
  have hB0 := (Below.refl w.heap.size w).alloc (Nat.le_refl _) (.cells #[.int .i64 h, .slice a zss.length c] 26)
  have hB1 := hB0.alloc (by simp) (.cells #[.int .i64 0, .slice none 0 0] 26)
  have hbox0 : FamBox (w.alloc (.cells #[.int .i64 h, .slice a zss.length c] 26)) w.heap.size h a zss.length c := ⟨by simp, by simp⟩
  have hbox := hbox0.below ((Below.refl _ _).alloc (Nat.le_refl _) (.cells #[.int .i64 0, .slice none 0 0] 26)) (Nat.le_refl _)
  have hF0 : Boxes1 ((w.alloc (.cells #[.int .i64 h, .slice a zss.length c] 26)).alloc (.cells #[.int .i64 0, .slice none 0 0] 26)) (w.heap.size + 1) := by
    have := World.alloc_heap_new (w.alloc (.cells #[.int .i64 h, .slice a zss.length c] 26)) (.cells #[.int .i64 0, .slice none 0 0] 26)
    simpa [Boxes1] using this
  have HA := Lib.hid (hr.step hB1)
  have HI := Lib.hid (hi.step hB1)
  have HX := Lib.hid hbox
  have HL := Lib.hid hl.lens
  have HB := Lib.hid hB1
  have HF := Lib.hid hF0
  clear hr hl hi hB0 hB1 hbox hbox0 hF0
  by_cases hf : FamOk h zss
  case neg =>
    have HT := Lib.hid (tell_false hf)
    have HV := Lib.hid (ren_bad (zs := zs) hf)
    clear hf
    go_enter Tryd.func18, Tryd.ntmps18
    go_wp2_with fail
    generalize (w.alloc (.cells #[.int .i64 h, .slice a zss.length c] 26)).alloc (.cells #[.int .i64 0, .slice none 0 0] 26) = w1 at *
    refine (l01Ok_any w.heap.size h a zss c w1 HX.out HA.out HL.out).mono ?_
    rintro e w2 ⟨rfl, hq⟩
    rw [HT.out]
    have hf' := HF.out.step (quiet_below hq)
    have c0 := hf'.c0
    have c1 := hf'.c1
    have f0 := hf'.f 0
    have f1 := hf'.f 1
    have HB2 := Lib.hid (chain HB.out (quiet_below hq))
    clear hq hf'
    go_wp2_with fail
    refine bodyPost_ret (v := .tuple #[.agg #[.int .i64 0, .slice none 0 0], .int .i64 1]) (by simp [results, Tryd.results18, go_sem, c0, c1]) rfl ?_
    rw [HV.out]
    exact GivesFC.no _ ((HB2.out.setCell (by simp) _).setCell (by simp) _)
  have hh1 : 1 ≤ h := hf.1.1
  have hh7 : h ≤ 7 := hf.1.2
  obtain ⟨m, rfl⟩ : ∃ m : Nat, h = (m : Int) := ⟨h.toNat, by omega⟩
  have HT := Lib.hid (tell_true hf)
  have HFO := Lib.hid hf
  clear hf
  go_enter Tryd.func18, Tryd.ntmps18
  go_wp2_with fail
  generalize (w.alloc (.cells #[.int .i64 (m : Int), .slice a zss.length c] 26)).alloc (.cells #[.int .i64 0, .slice none 0 0] 26) = w1 at *
  refine (l01Ok_any w.heap.size (m : Int) a zss c w1 HX.out HA.out HL.out).mono ?_
  rintro e w2 ⟨rfl, hq⟩
  rw [HT.out]
  have hdq := quiet_below hq
  have HX2 := Lib.hid (HX.out.below hdq (Nat.le_refl _))
  have HA2 := Lib.hid (HA.out.step hdq)
  have HI2 := Lib.hid (HI.out.step hdq)
  have HF2 := Lib.hid (HF.out.step hdq)
  have HB2 := Lib.hid (chain HB.out hdq)
  have p0 := HX2.out.1
  clear hq hdq
  go_wp2_with fail
  refine (l01Order_any b zs d (m : Int) w2 hh1 hh7 HI2.out hil).mono ?_
  rintro e w3 ⟨rfl, hb⟩
  have HX3 := Lib.hid (HX2.out.below hb (Nat.le_refl _))
  have HA3 := Lib.hid (HA2.out.step hb)
  have HI3 := Lib.hid (HI2.out.step hb)
  have hf3 := HF2.out.step hb
  have HF3 := Lib.hid hf3
  have HB3 := Lib.hid (chain HB2.out hb)
  clear hb p0
  by_cases ho : OrdOk (m : Int) zs
  case neg =>
    have HV := Lib.hid (ren_out HFO.out ho)
    rw [tell_false ho]
    have c0 := hf3.c0
    have c1 := hf3.c1
    have f0 := hf3.f 0
    have f1 := hf3.f 1
    clear ho hf3
    go_wp2_with fail
    refine bodyPost_ret (v := .tuple #[.agg #[.int .i64 0, .slice none 0 0], .int .i64 2]) (by simp [results, Tryd.results18, go_sem, c0, c1]) rfl ?_
    rw [HV.out]
    exact GivesFC.no _ ((HB3.out.setCell (by simp) _).setCell (by simp) _)
  have HV := Lib.hid (ren_yes HFO.out ho)
  have HO := Lib.hid ho
  rw [tell_true ho]
  clear ho hf3
  go_wp2_with fail
  refine (l01Renamed_any m w.heap.size a zss c b zs d w3 HX3.out HA3.out HL.out HI3.out HFO.out HO.out).mono ?_
  rintro e w4 ⟨⟨a2, c2, rfl, hrows, hlens⟩, hb⟩
  have hszw := HF3.out.lt
  have hf' := HF3.out.step hb
  have c0 := hf'.c0
  have c1 := hf'.c1
  have f0 := hf'.f 0
  have f1 := hf'.f 1
  have HRR := Lib.hid hrows
  have HB4 := Lib.hid (chain HB3.out hb)
  have hle : w.heap.size ≤ w3.heap.size := HB3.out.size
  clear hrows hlens hb hf'
  generalize famOf m (renB zs zss m) = Z at *
  go_wp2_with fail
  refine bodyPost_ret (v := .tuple #[.agg #[.int .i64 (m : Nat), .slice a2 Z.length c2], .int .i64 0]) (by simp [results, Tryd.results18, go_sem, c0, c1]) rfl ?_
  rw [HV.out]
  exact ⟨⟨a2, c2, rfl, ((HRR.out.set hszw 0 _).set hszw 1 _).mono hle⟩, (HB4.out.setCell (by simp) _).setCell (by simp) _⟩
end Go.Proofs.YtnalbonnjcphkaaDoor

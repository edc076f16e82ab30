/- DualFamily, the model's and the program's: the functions. -/
import Derived.Test.YteifllengcacbaaDoorDual
namespace Go.Proofs.YteifllengcacbaaDoor
open Go.RowKit Go.Deep Go.Shelf
set_option linter.unusedVariables false

theorem famWhereD_any (h : Nat) (fid : FuncId) (cl cr : Array Value) (p : Nat → Bool) (w : World) (h1 : 1 ≤ h) (h7 : h ≤ 7) (hC : Chooses w fid cl cr p) :
    Calls Tryd.prog 51 #[.int .i64 (h : Nat), .func (.func fid) cl cr] w (GivesFam w h (famOf h p)) := by
  rw [← famOf_seen h7]
  exact familyWhere_any h fid cl cr p w h1 h7 hC

theorem dual_same {m : Nat} (zss : List (List Int)) (h7 : m ≤ 7) : famOf m (fun x => !tabOf (m : Int) zss (offIn m x)) = famOf m (dualB m zss) :=
  famOf_congr h7 fun y hy => by
    have hy7 : y < 128 := Nat.lt_of_lt_of_le hy (Nat.pow_le_pow_right (by decide) h7 : 2 ^ m ≤ 2 ^ 7)
    have hp : 1 ≤ 2 ^ m := Nat.one_le_two_pow
    show (!tabOf (m : Int) zss (offIn m y)) = !tblAt zss zss.length (2 ^ m - 1 - y)
    rw [off_sub m h7 y hy7 hy]
    unfold tabOf
    rw [Int.toNat_natCast, seenBy_all h7 _ (by omega : 2 ^ m - 1 - y < 2 ^ m)]
    rfl

set_option maxHeartbeats 1000000 in
set_option maxRecDepth 100000 in
theorem implDual_any (h : Int) (a : Option Addr) (zss : List (List Int)) (c : Nat) (w : World) (hr : Rows2 w a zss) (hl : Small2 zss) : Calls Tryd.prog 23 #[.agg #[.int .i64 h, .slice a zss.length c]] w (GivesFO w (dualOf h zss)) := by
  have hB0 := (Below.refl w.heap.size w).alloc (Nat.le_refl _) (.cells #[.int .i64 h, .slice a zss.length c] 26)
  have hB1 := hB0.alloc (by simp) (.cells #[.int .i64 0, .slice none 0 0] 26)
  have d0 : ((w.alloc (.cells #[.int .i64 h, .slice a zss.length c] 26)).alloc (.cells #[.int .i64 0, .slice none 0 0] 26)).cell? ⟨w.heap.size, 0, none⟩ = some (.int .i64 h) := by simp [go_sem]
  have hF0 : Boxes1 ((w.alloc (.cells #[.int .i64 h, .slice a zss.length c] 26)).alloc (.cells #[.int .i64 0, .slice none 0 0] 26)) (w.heap.size + 1) := by
    have := World.alloc_heap_new (w.alloc (.cells #[.int .i64 h, .slice a zss.length c] 26)) (.cells #[.int .i64 0, .slice none 0 0] 26)
    simpa [Boxes1] using this
  have HA := Lib.hid (hr.step hB1)
  have HL := Lib.hid hl
  have HB := Lib.hid hB1
  have HF := Lib.hid hF0
  have hlt := hF0.lt
  clear hr hl hB0 hB1 hF0
  by_cases hf : FamOk h zss
  · have HFO := Lib.hid hf
    have hh1 : 1 ≤ h := hf.1.1
    have hh7 : h ≤ 7 := hf.1.2
    clear hf
    obtain ⟨m, rfl⟩ : ∃ m : Nat, h = (m : Int) := ⟨h.toNat, by omega⟩
    have m1 : 1 ≤ m := by omega
    have m7 : m ≤ 7 := by omega
    have HV := Lib.hid (dualOf_yes HFO.out)
    have HQ := Lib.hid (dual_same zss m7)
    go_enter Tryd.func23, Tryd.ntmps23
    go_wp2_with fail
    generalize (w.alloc (.cells #[.int .i64 (m : Int), .slice a zss.length c] 26)).alloc (.cells #[.int .i64 0, .slice none 0 0] 26) = w1 at *
    refine (tableOf_any (m : Int) a zss c w1 HA.out HL.out).mono ?_
    rintro e w2 ⟨hy, -, hb⟩
    obtain ⟨T, rfl, hT, htab⟩ := hy HFO.out
    rw [Int.toNat_natCast] at htab
    have HTA := Lib.hid htab
    have e0 := (hb.cell (p := ⟨w.heap.size, 0, none⟩) (by show w.heap.size < w1.heap.size; omega)).trans d0
    have HF2 := Lib.hid (HF.out.step hb)
    have HB2 := Lib.hid (chain HB.out hb)
    clear htab hy hb d0
    go_wp2_with fail
    refine (famWhereD_any m _ #[.pointer (some ⟨T, 0, none⟩)] #[] _ w2 m1 m7 (dual_chooses T m (tabOf (m : Int) zss) w2 m7 HTA.out)).mono ?_
    rintro e w3 ⟨⟨v, us, rfl, hrow, hrows⟩, hb⟩
    rw [HQ.out] at hrow hrows
    obtain ⟨va, vc, rfl⟩ := rowForm hrow
    have hZ3 := HF2.out.lt
    have hf' := HF2.out.step hb
    have c0 := hf'.c0
    have c1 := hf'.c1
    have f0 := hf'.f 0
    have f1 := hf'.f 1
    have HR := Lib.hid hrow
    have HRS := Lib.hid hrows
    have HB3 := Lib.hid (chain HB2.out hb)
    have hle : w.heap.size ≤ w2.heap.size := by omega
    clear hrow hrows hb hf' e0
    generalize famOf m (dualB m zss) = Z at *
    go_wp2_with fail
    refine bodyPost_ret (v := .tuple #[.agg #[.int .i64 (m : Nat), .slice va Z.length vc], .int .i64 0]) (by simp [results, Tryd.results23, go_sem, c0, c1]) rfl ?_
    rw [HV.out]
    exact ⟨⟨_, us, rfl, ownsRow_mono (row_set (row_set HR.out hZ3 _) hZ3 _) hle, (HRS.out.map fun u zs hu => row_set (row_set hu hZ3 _) hZ3 _).mono hle⟩, (HB3.out.setCell (by simp <;> omega) _).setCell (by simp <;> omega) _⟩
  · have HFO := Lib.hid hf
    have HV := Lib.hid (dualOf_no hf)
    clear hf
    go_enter Tryd.func23, Tryd.ntmps23
    go_wp2_with fail
    generalize (w.alloc (.cells #[.int .i64 h, .slice a zss.length c] 26)).alloc (.cells #[.int .i64 0, .slice none 0 0] 26) = w1 at *
    refine (tableOf_any h a zss c w1 HA.out HL.out).mono ?_
    rintro e w2 ⟨-, hn, hb⟩
    obtain rfl := hn HFO.out
    have hf' := HF.out.step hb
    have c0 := hf'.c0
    have c1 := hf'.c1
    have f0 := hf'.f 0
    have f1 := hf'.f 1
    have HB2 := Lib.hid (chain HB.out hb)
    clear hn hb hf'
    go_wp2_with fail
    refine bodyPost_ret (v := .tuple #[.agg #[.int .i64 0, .slice none 0 0], .int .i64 1]) (by simp [results, Tryd.results23, go_sem, c0, c1]) rfl ?_
    rw [HV.out]
    exact GivesFO.no _ ((HB2.out.setCell (by simp <;> omega) _).setCell (by simp <;> omega) _)

theorem dual_small (h : Int) (zss : List (List Int)) : Small2 (dualOf h zss).zss := by
  unfold dualOf
  split
  · rename_i k
    have := (of_tell k).1
    exact famOf_small (by omega) _
  · exact lens_small (by simp [noFam]) (by simp [noFam])
end Go.Proofs.YteifllengcacbaaDoor

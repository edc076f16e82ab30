/- 'laws.FnMinors': for all arguments the program's function gives what the model gives, and writes into nothing that it was given. Tied to the program's text: what the library's tables hold. No other condition. -/
import Derived.Test.YteifllengcacbaaDoorMin
import Derived.Test.YteifllengcacbaaDoorFgZ
import Derived.Test.YteifllengcacbaaDoorDualI
import Derived.Deep.RegionHeld3
import Derived.BigQuiet
import Derived.Test.YteifllengcacbaaDoorOpen
import Derived.Test.YteifllengcacbaaDoorCpf
import Derived.LaidHandle
import Derived.LaidLaws
import Derived.LaidMore
import Derived.Test.YteifllengcacbaaDoorKmiC
import Derived.Test.YteifllengcacbaaDoorKmiD
import Derived.Test.YteifllengcacbaaDoorTie
namespace Go.Proofs.YteifllengcacbaaDoor
open Go.RowKit Go.Deep Go.Shelf
set_option linter.unusedVariables false

theorem room_1 : ∀ k : Nat, k < 7 → ∀ x : Nat, x < 64 → bits BinOp.and IntKind.u64 (x : Int) ((2 ^ k - 1 : Nat) : Int) = (lowN k x : Nat) := by decide +kernel
theorem room_2 : ∀ k : Nat, k < 7 → ∀ x : Nat, x < 64 → bits BinOp.andNot IntKind.u64 (x : Int) ((lowN k x : Nat) : Int) = (highN k x : Nat) := by decide +kernel
theorem room_3 : ∀ k : Nat, k < 7 → ∀ x : Nat, x < 64 → bits BinOp.or IntKind.u64 ((lowN k x : Nat) : Int) (((highN k x : Nat) : Int) * 2) = (wideN k x : Nat) := by decide +kernel
theorem room_4 : ∀ k : Nat, k < 7 → ∀ x : Nat, x < 64 → bits BinOp.or IntKind.u64 ((lowN k x : Nat) : Int) (IntKind.u64.wrap (((highN k x : Nat) : Int) * 2)) = (wideN k x : Nat) := by decide +kernel
theorem wide_128 : ∀ k : Nat, k < 7 → ∀ x : Nat, x < 64 → wideN k x < 128 := by decide +kernel
set_option maxRecDepth 100000 in
theorem room_any (x k : Nat) (w : World) (hx : x < 64) (hk : k < 7) : Calls Tryd.prog 59 #[.int .u64 x, .int .i64 (k : Nat)] w fun e w' => e = .returned (.int .u64 ((wideN k x : Nat) : Int)) ∧ w = w' := by
  have u1 := room_1 k hk x hx
  have u2 := room_2 k hk x hx
  have u3 := room_3 k hk x hx
  have u4 := room_4 k hk x hx
  have u5 := high_lt k hk x hx
  obtain ⟨M, hM⟩ : ∃ M, 2 ^ k - 1 = M := ⟨_, rfl⟩
  rw [hM] at u1
  have HM := Lib.hid hM
  clear hM
  generalize wideN k x = y at *
  generalize highN k x = hi at *
  generalize lowN k x = lo at *
  go_enter Tryd.func59, Tryd.ntmps59
  go_wp2_with (go_at_call 68; refine (allH_any k M w (by omega) HM.out).mono ?_; rintro e w' ⟨rfl, rfl⟩)
  go_ret
  exact ⟨rfl, rfl⟩

/-- What gives a table that a holder is to leave. -/
def Leaves (W : World) (h : Int) (zss : List (List Int)) (k : Int) (e : Ending) (w' : World) : Prop :=
  ((∃ T, FamOk h zss ∧ (0 ≤ k ∧ k < h) ∧ h ≠ 1 ∧ e = .returned (.tuple #[.pointer (some ⟨T, 0, none⟩), .int .i64 0]) ∧ TableAt w' T h.toNat (tabOf h zss)) ∨
   (∃ code : Int, (code = 1 ∨ code = 2 ∨ code = 4) ∧ (∀ tr, minOf tr h zss k = noFam code) ∧ e = .returned (.tuple #[.pointer none, .int .i64 code]))) ∧ Below W.heap.size W w'

set_option maxHeartbeats 600000 in
set_option maxRecDepth 100000 in
theorem leave_any (h : Int) (a : Option Addr) (zss : List (List Int)) (c : Nat) (k : Int) (w : World) (hr : Rows2 w a zss) (hl : Small2 zss) :
    Calls Tryd.prog 57 #[.agg #[.int .i64 h, .slice a zss.length c], .int .i64 k] w (Leaves w h zss k) := by
  have hb1 := (Below.refl w.heap.size w).alloc (Nat.le_refl _) (.cells #[.int .i64 h, .slice a zss.length c] 26)
  have c0 : (w.alloc (.cells #[.int .i64 h, .slice a zss.length c] 26)).cell? ⟨w.heap.size, 0, none⟩ = some (.int .i64 h) := by simp
  have hlt0 : w.heap.size < (w.alloc (.cells #[.int .i64 h, .slice a zss.length c] 26)).heap.size := by simp
  have HR := Lib.hid (hr.step hb1)
  have HL := Lib.hid hl
  have HB := Lib.hid hb1
  clear hr hl hb1
  by_cases hf : FamOk h zss
  · have HFO := Lib.hid hf
    have hh1 : 1 ≤ h := hf.1.1
    have hh7 : h ≤ 7 := hf.1.2
    clear hf
    go_enter Tryd.func57, Tryd.ntmps57
    go_wp2_with fail
    refine (tableOf_any h a zss c _ HR.out HL.out).mono ?_
    generalize w.alloc (.cells #[.int .i64 h, .slice a zss.length c] 26) = w1 at *
    rintro e w2 ⟨hy, -, hb⟩
    obtain ⟨T, rfl, hT, htab⟩ := hy HFO.out
    have HTA := Lib.hid htab
    have HB2 := Lib.hid (chain HB.out hb)
    have p0 := (hb.cell (p := ⟨w.heap.size, 0, none⟩) hlt0).trans c0
    clear htab hy hb c0
    by_cases k0 : k < 0
    · have HV := Lib.hid (fun tr => min_out (tr := tr) (k := k) HFO.out (fun q => by omega))
      go_wp2_with fail
      go_ret2
      exact ⟨.inr ⟨2, by simp, HV.out, rfl⟩, HB2.out⟩
    · have k1 : 0 ≤ k := by omega
      clear k0
      by_cases k2 : h ≤ k
      · have HV := Lib.hid (fun tr => min_out (tr := tr) (k := k) HFO.out (fun q => by omega))
        go_wp2_with fail
        go_ret2
        exact ⟨.inr ⟨2, by simp, HV.out, rfl⟩, HB2.out⟩
      · have k3 : k < h := by omega
        clear k2
        by_cases h1 : h = 1
        · have HV := Lib.hid (fun tr => min_one (tr := tr) (k := k) HFO.out ⟨k1, k3⟩ h1)
          have hob : (h == 1) = true := by rw [h1]; rfl
          have HH := Lib.hid h1
          clear h1
          go_wp2_with fail
          go_ret2
          exact ⟨.inr ⟨4, by simp, HV.out, rfl⟩, HB2.out⟩
        · have hob : (h == 1) = false := by simpa using h1
          have HH := Lib.hid h1
          clear h1
          go_wp2_with fail
          go_ret2
          exact ⟨.inl ⟨T, HFO.out, ⟨k1, k3⟩, HH.out, rfl, HTA.out⟩, HB2.out⟩
  · have HFO := Lib.hid hf
    have HV := Lib.hid (fun tr => min_bad (tr := tr) (k := k) hf)
    clear hf
    go_enter Tryd.func57, Tryd.ntmps57
    go_wp2_with fail
    refine (tableOf_any h a zss c _ HR.out HL.out).mono ?_
    generalize w.alloc (.cells #[.int .i64 h, .slice a zss.length c] 26) = w1 at *
    rintro e w2 ⟨-, hn, hb⟩
    obtain rfl := hn HFO.out
    have HB2 := Lib.hid (chain HB.out hb)
    clear hn hb c0
    go_wp2_with fail
    go_ret2
    exact ⟨.inr ⟨1, by simp, HV.out, rfl⟩, HB2.out⟩
end Go.Proofs.YteifllengcacbaaDoor

namespace Go.Proofs.YteifllengcacbaaDoor
open Go.RowKit Go.Deep Go.Shelf
set_option linter.unusedVariables false

set_option maxRecDepth 100000 in
theorem Wo_chooses (B C T m j : Nat) (q : Nat → Bool) (w : World) (hB : w.cell? ⟨B, 0, none⟩ = some (.pointer (some ⟨T, 0, none⟩))) (hC : w.cell? ⟨C, 0, none⟩ = some (.int .i64 (j : Nat))) (ht : TableAt w T m q) (m7 : m ≤ 7) (hj : j < m) :
    ChoosesC w 58 #[] #[.pointer (some ⟨B, 0, none⟩), .pointer (some ⟨C, 0, none⟩)] (m - 1) (fun x => q (minN false j x)) := by
  refine ⟨enters_of Tryd.func58 (by kernel_rfl) rfl, fun x W hxh hb => ?_⟩
  have hBW := cell_step hb hB
  have hCW := cell_step hb hC
  have HT := Lib.hid (ht.below hb (World.block_lt_of_cell? _ _ ht.h0))
  have hx64 : x.val < 64 := Nat.lt_of_lt_of_le hxh (Nat.pow_le_pow_right (by decide) (by omega : m - 1 ≤ 6))
  have hj7 : j < 7 := by omega
  have h128 := wide_128 j hj7 x.val hx64
  have hy128 : minN false j x.val < 128 := Nat.lt_of_lt_of_le (minN_lt false m7 hj hxh) (Nat.pow_le_pow_right (by decide) m7 : 2 ^ m ≤ 2 ^ 7)
  clear hb hB hC ht
  show Calls Tryd.prog 58 #[.int .u64 (x.val : Int), .pointer (some ⟨B, 0, none⟩), .pointer (some ⟨C, 0, none⟩)] W _
  generalize x.val = y at *
  go_enter Tryd.func58, Tryd.ntmps58
  go_wp2
  go_quiet (first | (go_at_call 59; exact Calls.quiet_of_same (swapped (room_any y j _ hx64 hj7))) | (go_at_call 47; exact Calls.quiet_of_same (swapped (opens_any T m (minN false j y) q _ hy128 (HT.out.step (quiet_below ⟨_, rfl⟩))))))
  go_wp2
  go_ret
  exact ⟨rfl, quiet_below ⟨_, rfl⟩⟩

set_option maxHeartbeats 1000000 in
set_option maxRecDepth 100000 in
theorem implWo_any (h : Int) (a : Option Addr) (zss : List (List Int)) (c : Nat) (k : Int) (w : World) (hr : Rows2 w a zss) (hl : Small2 zss) (wf : (Lit.int .i64 k).wf = true) : Calls Tryd.prog 27 #[.agg #[.int .i64 h, .slice a zss.length c], .int .i64 k] w (GivesFO w (minOf false h zss k)) := by
  have hB0 := (Below.refl w.heap.size w).alloc (Nat.le_refl _) (.cells #[.int .i64 h, .slice a zss.length c] 26)
  have hB1 := hB0.alloc (by simp) (.cells #[.int .i64 k] 2)
  have hB2 := hB1.alloc (by simp; omega) (.cells #[.int .i64 0, .slice none 0 0] 26)
  have d0 : (((w.alloc (.cells #[.int .i64 h, .slice a zss.length c] 26)).alloc (.cells #[.int .i64 k] 2)).alloc (.cells #[.int .i64 0, .slice none 0 0] 26)).cell? ⟨w.heap.size, 0, none⟩ = some (.int .i64 h) := by simp [go_sem]
  have d1 : (((w.alloc (.cells #[.int .i64 h, .slice a zss.length c] 26)).alloc (.cells #[.int .i64 k] 2)).alloc (.cells #[.int .i64 0, .slice none 0 0] 26)).cell? ⟨w.heap.size + 1, 0, none⟩ = some (.int .i64 k) := by simp [go_sem]
  have hF0 : Boxes1 (((w.alloc (.cells #[.int .i64 h, .slice a zss.length c] 26)).alloc (.cells #[.int .i64 k] 2)).alloc (.cells #[.int .i64 0, .slice none 0 0] 26)) (w.heap.size + 1 + 1) := by
    have := World.alloc_heap_new ((w.alloc (.cells #[.int .i64 h, .slice a zss.length c] 26)).alloc (.cells #[.int .i64 k] 2)) (.cells #[.int .i64 0, .slice none 0 0] 26)
    simpa [Boxes1] using this
  have HA := Lib.hid (hr.step hB2)
  have HL := Lib.hid hl
  have HB := Lib.hid hB2
  have HF := Lib.hid hF0
  have hlt := hF0.lt
  clear hr hl hB0 hB1 hB2 hF0
  go_enter Tryd.func27, Tryd.ntmps27
  go_wp2_with fail
  generalize ((w.alloc (.cells #[.int .i64 h, .slice a zss.length c] 26)).alloc (.cells #[.int .i64 k] 2)).alloc (.cells #[.int .i64 0, .slice none 0 0] 26) = w1 at *
  refine (leave_any h a zss c k w1 HA.out HL.out).mono ?_
  rintro e w2 ⟨hcase, hb⟩
  have e0 := (hb.cell (p := ⟨w.heap.size, 0, none⟩) (by show w.heap.size < w1.heap.size; omega)).trans d0
  have e1 := (hb.cell (p := ⟨w.heap.size + 1, 0, none⟩) (by show w.heap.size + 1 < w1.heap.size; omega)).trans d1
  have HF2 := Lib.hid (HF.out.step hb)
  have HB2 := Lib.hid (chain HB.out hb)
  have hs2 := hb.size
  clear hb d0 d1
  rcases hcase with ⟨T, hfo, hk, h1, rfl, htab⟩ | ⟨code, hcode, hmin, rfl⟩
  · have hh1 : 1 ≤ h := hfo.1.1
    have hh7 : h ≤ 7 := hfo.1.2
    obtain ⟨m, rfl⟩ : ∃ m : Nat, h = (m : Int) := ⟨h.toNat, by omega⟩
    obtain ⟨j, rfl⟩ : ∃ j : Nat, k = (j : Int) := ⟨k.toNat, by omega⟩
    have hjm : j < m := by omega
    have m7 : m ≤ 7 := by omega
    obtain ⟨m', hm'⟩ : ∃ m' : Nat, (m : Int) - 1 = (m' : Int) := ⟨m - 1, by omega⟩
    have hmm : m' = m - 1 := by omega
    have hm1 : 1 ≤ m' := by omega
    have hm7 : m' ≤ 7 := by omega
    have HMM := Lib.hid hmm
    have HV := Lib.hid (min_in (tr := false) (zss := zss) hfo hjm (by omega))
    have HQ := Lib.hid (show famOf m' (fun x => tabOf (m : Int) zss (minN false j x)) = famOf m' (minB false j zss) from famOf_congr hm7 fun y hy => by
      show tabOf (m : Int) zss (minN false j y) = tblAt zss zss.length (minN false j y)
      unfold tabOf
      rw [Int.toNat_natCast]
      exact seenBy_all m7 _ (minN_lt false m7 hjm (by rw [← hmm]; exact hy)))
    rw [Int.toNat_natCast] at htab
    have hbT := (Below.refl w2.heap.size w2).alloc (Nat.le_refl _) (.cells #[.pointer (some ⟨T, 0, none⟩)] 57)
    have HTA := Lib.hid (htab.step hbT)
    have HF3 := Lib.hid (HF2.out.step hbT)
    have HB3 := Lib.hid (chain HB2.out hbT)
    have a0 := cell_step hbT e0
    have a1 := cell_step hbT e1
    have aT : (w2.alloc (.cells #[.pointer (some ⟨T, 0, none⟩)] 57)).cell? ⟨w2.heap.size, 0, none⟩ = some (.pointer (some ⟨T, 0, none⟩)) := by simp
    clear hfo hk htab hbT hmm
    go_wp2_with fail
    generalize w2.alloc (.cells #[.pointer (some ⟨T, 0, none⟩)] 57) = w3 at *
    refine (familyWhereC_any m' _ #[] #[.pointer (some ⟨w2.heap.size, 0, none⟩), .pointer (some ⟨w.heap.size + 1, 0, none⟩)] (fun x => tabOf (m : Int) zss (minN false j x)) w3 hm1 hm7 (by have hc := Wo_chooses w2.heap.size (w.heap.size + 1) T m j (tabOf (m : Int) zss) w3 aT a1 HTA.out m7 hjm; rw [← HMM.out] at hc; exact hc)).mono ?_
    rintro e w4 ⟨⟨v, us, rfl, hrow, hrows⟩, hb⟩
    rw [famOf_seen hm7, HQ.out] at hrow hrows
    obtain ⟨va, vc, hva⟩ := rowForm hrow
    subst hva
    have hZ3 := HF3.out.lt
    have hf' := HF3.out.step hb
    have c0 := hf'.c0
    have c1 := hf'.c1
    have f0 := hf'.f 0
    have f1 := hf'.f 1
    have HR := Lib.hid hrow
    have HRS := Lib.hid hrows
    have HB4 := Lib.hid (chain HB3.out hb)
    have hle : w.heap.size ≤ w3.heap.size := HB3.out.size
    clear hrow hrows hb hf' e0 e1 a0 a1 aT
    have hV2 : minOf false (m : Int) zss (j : Int) = ⟨(m' : Nat), famOf m' (minB false j zss), 0⟩ := by rw [HV.out, hm', HMM.out]
    have HV2 := Lib.hid hV2
    clear hV2
    generalize famOf m' (minB false j zss) = Z at *
    go_wp2_with fail
    refine bodyPost_ret (v := .tuple #[.agg #[.int .i64 (m' : Nat), .slice va Z.length vc], .int .i64 0]) (by simp [results, Tryd.results27, go_sem, c0, c1]) rfl ?_
    rw [HV2.out]
    exact ⟨⟨_, us, rfl, ownsRow_mono (row_set (row_set HR.out hZ3 _) hZ3 _) hle, (HRS.out.map fun u zs hu => row_set (row_set hu hZ3 _) hZ3 _).mono hle⟩, (HB4.out.setCell (by simp <;> omega) _).setCell (by simp <;> omega) _⟩
  · have HV := Lib.hid (hmin false)
    have hbT := (Below.refl w2.heap.size w2).alloc (Nat.le_refl _) (.cells #[.pointer none] 57)
    have hf' := HF2.out.step hbT
    have c0 := hf'.c0
    have c1 := hf'.c1
    have f0 := hf'.f 0
    have f1 := hf'.f 1
    have HB3 := Lib.hid (chain HB2.out hbT)
    clear hmin hbT hf' e0 e1
    rcases hcode with rfl | rfl | rfl
    all_goals
      go_wp2_with fail
      generalize w2.alloc (.cells #[.pointer none] 57) = w3 at *
      refine bodyPost_ret (v := .tuple #[.agg #[.int .i64 0, .slice none 0 0], .int .i64 _]) (by simp [results, Tryd.results27, go_sem, c0, c1]; rfl) rfl ?_
      rw [HV.out]
      exact GivesFO.no _ ((HB3.out.setCell (by simp <;> omega) _).setCell (by simp <;> omega) _)

set_option maxRecDepth 100000 in
theorem Tr_chooses (B C T m j : Nat) (q : Nat → Bool) (w : World) (hB : w.cell? ⟨B, 0, none⟩ = some (.pointer (some ⟨T, 0, none⟩))) (hC : w.cell? ⟨C, 0, none⟩ = some (.int .i64 (j : Nat))) (ht : TableAt w T m q) (m7 : m ≤ 7) (hj : j < m) :
    ChoosesC w 60 #[] #[.pointer (some ⟨B, 0, none⟩), .pointer (some ⟨C, 0, none⟩)] (m - 1) (fun x => q (minN true j x)) := by
  refine ⟨enters_of Tryd.func60 (by kernel_rfl) rfl, fun x W hxh hb => ?_⟩
  have hBW := cell_step hb hB
  have hCW := cell_step hb hC
  have HT := Lib.hid (ht.below hb (World.block_lt_of_cell? _ _ ht.h0))
  have hx64 : x.val < 64 := Nat.lt_of_lt_of_le hxh (Nat.pow_le_pow_right (by decide) (by omega : m - 1 ≤ 6))
  have hj7 : j < 7 := by omega
  have h128 := wide_128 j hj7 x.val hx64
  have hy128 : minN true j x.val < 128 := Nat.lt_of_lt_of_le (minN_lt true m7 hj hxh) (Nat.pow_le_pow_right (by decide) m7 : 2 ^ m ≤ 2 ^ 7)
  clear hb hB hC ht
  show Calls Tryd.prog 60 #[.int .u64 (x.val : Int), .pointer (some ⟨B, 0, none⟩), .pointer (some ⟨C, 0, none⟩)] W _
  generalize x.val = y at *
  go_enter Tryd.func60, Tryd.ntmps60
  go_wp2
  go_quiet (first | (go_at_call 59; exact Calls.quiet_of_same (swapped (room_any y j _ hx64 hj7))) | (go_at_call 61; exact Calls.quiet_of_same (swapped (with_any (wideN j y) (j : Int) _ h128 (by omega) (by omega)))) | (go_at_call 47; exact Calls.quiet_of_same (swapped (opens_any T m (minN true j y) q _ hy128 (HT.out.step (quiet_below ⟨_, rfl⟩))))))
  go_wp2
  go_ret
  exact ⟨rfl, quiet_below ⟨_, rfl⟩⟩

set_option maxHeartbeats 1000000 in
set_option maxRecDepth 100000 in
theorem implTr_any (h : Int) (a : Option Addr) (zss : List (List Int)) (c : Nat) (k : Int) (w : World) (hr : Rows2 w a zss) (hl : Small2 zss) (wf : (Lit.int .i64 k).wf = true) : Calls Tryd.prog 28 #[.agg #[.int .i64 h, .slice a zss.length c], .int .i64 k] w (GivesFO w (minOf true h zss k)) := by
  have hB0 := (Below.refl w.heap.size w).alloc (Nat.le_refl _) (.cells #[.int .i64 h, .slice a zss.length c] 26)
  have hB1 := hB0.alloc (by simp) (.cells #[.int .i64 k] 2)
  have hB2 := hB1.alloc (by simp; omega) (.cells #[.int .i64 0, .slice none 0 0] 26)
  have d0 : (((w.alloc (.cells #[.int .i64 h, .slice a zss.length c] 26)).alloc (.cells #[.int .i64 k] 2)).alloc (.cells #[.int .i64 0, .slice none 0 0] 26)).cell? ⟨w.heap.size, 0, none⟩ = some (.int .i64 h) := by simp [go_sem]
  have d1 : (((w.alloc (.cells #[.int .i64 h, .slice a zss.length c] 26)).alloc (.cells #[.int .i64 k] 2)).alloc (.cells #[.int .i64 0, .slice none 0 0] 26)).cell? ⟨w.heap.size + 1, 0, none⟩ = some (.int .i64 k) := by simp [go_sem]
  have hF0 : Boxes1 (((w.alloc (.cells #[.int .i64 h, .slice a zss.length c] 26)).alloc (.cells #[.int .i64 k] 2)).alloc (.cells #[.int .i64 0, .slice none 0 0] 26)) (w.heap.size + 1 + 1) := by
    have := World.alloc_heap_new ((w.alloc (.cells #[.int .i64 h, .slice a zss.length c] 26)).alloc (.cells #[.int .i64 k] 2)) (.cells #[.int .i64 0, .slice none 0 0] 26)
    simpa [Boxes1] using this
  have HA := Lib.hid (hr.step hB2)
  have HL := Lib.hid hl
  have HB := Lib.hid hB2
  have HF := Lib.hid hF0
  have hlt := hF0.lt
  clear hr hl hB0 hB1 hB2 hF0
  go_enter Tryd.func28, Tryd.ntmps28
  go_wp2_with fail
  generalize ((w.alloc (.cells #[.int .i64 h, .slice a zss.length c] 26)).alloc (.cells #[.int .i64 k] 2)).alloc (.cells #[.int .i64 0, .slice none 0 0] 26) = w1 at *
  refine (leave_any h a zss c k w1 HA.out HL.out).mono ?_
  rintro e w2 ⟨hcase, hb⟩
  have e0 := (hb.cell (p := ⟨w.heap.size, 0, none⟩) (by show w.heap.size < w1.heap.size; omega)).trans d0
  have e1 := (hb.cell (p := ⟨w.heap.size + 1, 0, none⟩) (by show w.heap.size + 1 < w1.heap.size; omega)).trans d1
  have HF2 := Lib.hid (HF.out.step hb)
  have HB2 := Lib.hid (chain HB.out hb)
  have hs2 := hb.size
  clear hb d0 d1
  rcases hcase with ⟨T, hfo, hk, h1, rfl, htab⟩ | ⟨code, hcode, hmin, rfl⟩
  · have hh1 : 1 ≤ h := hfo.1.1
    have hh7 : h ≤ 7 := hfo.1.2
    obtain ⟨m, rfl⟩ : ∃ m : Nat, h = (m : Int) := ⟨h.toNat, by omega⟩
    obtain ⟨j, rfl⟩ : ∃ j : Nat, k = (j : Int) := ⟨k.toNat, by omega⟩
    have hjm : j < m := by omega
    have m7 : m ≤ 7 := by omega
    obtain ⟨m', hm'⟩ : ∃ m' : Nat, (m : Int) - 1 = (m' : Int) := ⟨m - 1, by omega⟩
    have hmm : m' = m - 1 := by omega
    have hm1 : 1 ≤ m' := by omega
    have hm7 : m' ≤ 7 := by omega
    have HMM := Lib.hid hmm
    have HV := Lib.hid (min_in (tr := true) (zss := zss) hfo hjm (by omega))
    have HQ := Lib.hid (show famOf m' (fun x => tabOf (m : Int) zss (minN true j x)) = famOf m' (minB true j zss) from famOf_congr hm7 fun y hy => by
      show tabOf (m : Int) zss (minN true j y) = tblAt zss zss.length (minN true j y)
      unfold tabOf
      rw [Int.toNat_natCast]
      exact seenBy_all m7 _ (minN_lt true m7 hjm (by rw [← hmm]; exact hy)))
    rw [Int.toNat_natCast] at htab
    have hbT := (Below.refl w2.heap.size w2).alloc (Nat.le_refl _) (.cells #[.pointer (some ⟨T, 0, none⟩)] 57)
    have HTA := Lib.hid (htab.step hbT)
    have HF3 := Lib.hid (HF2.out.step hbT)
    have HB3 := Lib.hid (chain HB2.out hbT)
    have a0 := cell_step hbT e0
    have a1 := cell_step hbT e1
    have aT : (w2.alloc (.cells #[.pointer (some ⟨T, 0, none⟩)] 57)).cell? ⟨w2.heap.size, 0, none⟩ = some (.pointer (some ⟨T, 0, none⟩)) := by simp
    clear hfo hk htab hbT hmm
    go_wp2_with fail
    generalize w2.alloc (.cells #[.pointer (some ⟨T, 0, none⟩)] 57) = w3 at *
    refine (familyWhereC_any m' _ #[] #[.pointer (some ⟨w2.heap.size, 0, none⟩), .pointer (some ⟨w.heap.size + 1, 0, none⟩)] (fun x => tabOf (m : Int) zss (minN true j x)) w3 hm1 hm7 (by have hc := Tr_chooses w2.heap.size (w.heap.size + 1) T m j (tabOf (m : Int) zss) w3 aT a1 HTA.out m7 hjm; rw [← HMM.out] at hc; exact hc)).mono ?_
    rintro e w4 ⟨⟨v, us, rfl, hrow, hrows⟩, hb⟩
    rw [famOf_seen hm7, HQ.out] at hrow hrows
    obtain ⟨va, vc, hva⟩ := rowForm hrow
    subst hva
    have hZ3 := HF3.out.lt
    have hf' := HF3.out.step hb
    have c0 := hf'.c0
    have c1 := hf'.c1
    have f0 := hf'.f 0
    have f1 := hf'.f 1
    have HR := Lib.hid hrow
    have HRS := Lib.hid hrows
    have HB4 := Lib.hid (chain HB3.out hb)
    have hle : w.heap.size ≤ w3.heap.size := HB3.out.size
    clear hrow hrows hb hf' e0 e1 a0 a1 aT
    have hV2 : minOf true (m : Int) zss (j : Int) = ⟨(m' : Nat), famOf m' (minB true j zss), 0⟩ := by rw [HV.out, hm', HMM.out]
    have HV2 := Lib.hid hV2
    clear hV2
    generalize famOf m' (minB true j zss) = Z at *
    go_wp2_with fail
    refine bodyPost_ret (v := .tuple #[.agg #[.int .i64 (m' : Nat), .slice va Z.length vc], .int .i64 0]) (by simp [results, Tryd.results28, go_sem, c0, c1]) rfl ?_
    rw [HV2.out]
    exact ⟨⟨_, us, rfl, ownsRow_mono (row_set (row_set HR.out hZ3 _) hZ3 _) hle, (HRS.out.map fun u zs hu => row_set (row_set hu hZ3 _) hZ3 _).mono hle⟩, (HB4.out.setCell (by simp <;> omega) _).setCell (by simp <;> omega) _⟩
  · have HV := Lib.hid (hmin true)
    have hbT := (Below.refl w2.heap.size w2).alloc (Nat.le_refl _) (.cells #[.pointer none] 57)
    have hf' := HF2.out.step hbT
    have c0 := hf'.c0
    have c1 := hf'.c1
    have f0 := hf'.f 0
    have f1 := hf'.f 1
    have HB3 := Lib.hid (chain HB2.out hbT)
    clear hmin hbT hf' e0 e1
    rcases hcode with rfl | rfl | rfl
    all_goals
      go_wp2_with fail
      generalize w2.alloc (.cells #[.pointer none] 57) = w3 at *
      refine bodyPost_ret (v := .tuple #[.agg #[.int .i64 0, .slice none 0 0], .int .i64 _]) (by simp [results, Tryd.results28, go_sem, c0, c1]; rfl) rfl ?_
      rw [HV.out]
      exact GivesFO.no _ ((HB3.out.setCell (by simp <;> omega) _).setCell (by simp <;> omega) _)
end Go.Proofs.YteifllengcacbaaDoor

namespace Go.Proofs.YteifllengcacbaaDoor
open Go.RowKit Go.Deep Go.Joins
set_option linter.unusedVariables false

theorem wide_fact : ∀ h : Nat, h < 7 → ∀ x : Nat, x < 64 → ∀ tr : Bool, ((listOf x).filter fun z => decide (z < (h : Int))) ++ (if tr then [(h : Int)] else []) ++ (((listOf x).filter fun z => decide ((h : Int) ≤ z)).map (· + 1)) = listOf (minN tr h x) := by decide +kernel
theorem take_low {zs : List Int} (hp : zs.Pairwise (· < ·)) {k : Nat} {h : Int} (hk : k ≤ zs.length) (h1 : ∀ j, j < k → nth zs j < h) (h2 : k = zs.length ∨ h ≤ nth zs k) : zs.take k = zs.filter fun z => decide (z < h) := by
  have e : zs.filter (fun z => decide (z < h)) = (zs.take k).filter (fun z => decide (z < h)) ++ (zs.drop k).filter (fun z => decide (z < h)) := by
    rw [← List.filter_append, List.take_append_drop]
  have e1 : (zs.take k).filter (fun z => decide (z < h)) = zs.take k := by
    rw [List.filter_eq_self]
    intro z hz
    obtain ⟨i, hi, rfl⟩ := List.mem_iff_getElem.1 hz
    have hi2 : i < k ∧ i < zs.length := by rw [List.length_take] at hi; omega
    have := h1 i hi2.1
    rw [nth_lt hi2.2] at this
    rw [List.getElem_take]
    exact decide_eq_true this
  have e2 : (zs.drop k).filter (fun z => decide (z < h)) = [] := by
    rw [List.filter_eq_nil_iff]
    intro z hz
    rcases h2 with h2 | h2
    · subst h2; simp at hz
    · obtain ⟨i, hi, rfl⟩ := List.mem_iff_getElem.1 hz
      have hlen : k + i < zs.length := by rw [List.length_drop] at hi; omega
      rw [List.getElem_drop]
      have h3 : nth zs k ≤ zs[k + i] := by
        rw [nth_lt (show k < zs.length by omega)]
        by_cases hi0 : i = 0
        · subst hi0; exact Int.le_refl _
        · exact Int.le_of_lt (List.pairwise_iff_getElem.1 hp k (k + i) (by omega) hlen (by omega))
      simp only [decide_eq_true_eq]; omega
  rw [e, e1, e2, List.append_nil]
set_option maxRecDepth 100000 in
set_option maxHeartbeats 2000000 in
theorem a2Wide_true (a : Option Addr) (x c h n : Nat) (w : World) (hr : Ints w a (listOf x)) (hx : x < 2 ^ n) (hn : n ≤ 6) (hh : h ≤ n) :
    Calls Tryd.prog 29 #[.slice a (listOf x).length c, .int .i64 (h : Nat), .bool true] w (GivesInts w (listOf (minN true h x))) := by
  obtain ⟨i0, hi, hz0, hz1, hz2⟩ := info_parts Tryd.infoInt64
  have hx64 : x < 64 := by have : (2 : Nat) ^ n ≤ 2 ^ 6 := Nat.pow_le_pow_right (by decide) hn; omega
  have HFIN := Lib.hid (show ((listOf x).filter fun z => decide (z < (h : Int))) ++ [(h : Int)] ++ (((listOf x).filter fun z => decide ((h : Int) ≤ z)).map (· + 1)) = listOf (minN true h x) from wide_fact h (by omega) x hx64 true)
  have hg := grp_list (m := n) (by omega) hx
  have hpw := grp_pairwise hg
  have HZ := Lib.hid (show ∀ k, k < (listOf x).length → 0 ≤ nth (listOf x) k ∧ nth (listOf x) k ≤ 6 from fun k hk => by
    have := grp_mem hg (nth (listOf x) k) (by rw [nth_lt hk]; exact List.getElem_mem _)
    omega)
  have hl7 : (listOf x).length ≤ 7 := listTo_len x 7
  have HR := Lib.hid hr
  have HPW := Lib.hid hpw
  clear hr hx hg hpw hx64
  generalize listOf (minN true h x) = Y at *
  generalize listOf x = zs at *
  obtain ⟨P, hP⟩ : ∃ P, P = zs.filter fun z => decide (z < (h : Int)) := ⟨_, rfl⟩
  rw [← hP] at HFIN
  have HP := Lib.hid hP
  clear hP
  go_enter Tryd.func29, Tryd.ntmps29
  go_wp2_with fail
  have hown : OwnI (w.alloc (.cells #[] 2)) w.heap.size (.slice (some ⟨w.heap.size, 0, none⟩) 0 0) [] := World.ownsRow_made w #[] 0 (Nat.le_refl _) (by unfold maxLen; omega) rfl
  have hb1 := (Below.refl w.heap.size w).alloc (Nat.le_refl _) (.cells #[] 2)
  generalize (Value.slice (some ⟨w.heap.size, 0, none⟩) 0 0) = v0 at *
  go_loopw [7, 8] (fun v i wr => ∃ k : Nat, k ≤ zs.length ∧ i = .int .i64 k ∧ OwnI wr w.heap.size v (zs.take k) ∧ Below w.heap.size w wr ∧ ∀ j, j < k → nth zs j < (h : Int))
    (fun _ i _ => zs.length - (intOf i).toNat)
  case atStart => exact ⟨0, by omega, rfl, by simpa using hown, hb1, fun j hj => absurd hj (Nat.not_lt_zero _)⟩
  case round =>
    obtain ⟨k, hk, rfl, ho, hb, hall⟩ := hrel
    have HOI1 := Lib.hid ho
    have HBI1 := Lib.hid hb
    have hsb1 := hb.size
    have HALL := Lib.hid hall
    have hrs := HR.out.step hb
    clear ho hb hall hown hb1
    by_cases hlt : k < zs.length
    · rcases hrs with h0 | ⟨b, o, rfl, hc⟩
      · rw [h0] at hlt; exact absurd hlt (Nat.not_lt_zero _)
      have hcell := hc k hlt
      have hi0 : (k : Int) < (zs.length : Int) := by omega
      have HTN := Lib.hid (show zs.take (k + 1) = zs.take k ++ [nth zs k] by rw [nth_lt hlt]; exact List.take_succ_eq_append_getElem hlt)
      have htl : (zs.take k).length ≤ 7 := by rw [List.length_take]; omega
      clear hc
      by_cases hls : nth zs k < (h : Int)
      · have HLS := Lib.hid hls
        obtain ⟨z, hz⟩ : ∃ z, nth zs k = z := ⟨_, rfl⟩
        have HZZ := Lib.hid hz
        rw [hz] at hcell hls HTN
        clear hz
        go_wp2_with (at_builtin; refine wpList_append_own _ rfl _ _ 28 rfl w.heap.size 2 i0 (.int .i64 0) 1 8 Tryd.underlying28 hi hz0 hz1 hz2 rfl (by decide) _ _ _ rfl (World.ownsRow.alloc HOI1.out _) ⟨wr.heap.size, 0, none⟩ 1 1 [.int .i64 z] rfl rfl (cell_one_new _ _ _) (by simp [Value.oneCell']) (by unfold maxLen; omega) (by omega) (by simp; omega) ?_; intro v' w5 hown hgrow _; have HOWN := Lib.hid hown; have HGROW := Lib.hid hgrow; clear hown hgrow)
        go_wp2
        go_roundw
        case rel =>
          refine ⟨k + 1, by omega, by go_num, ?_, ?_, fun j hj => ?_⟩
          · rw [HTN.out]; unfold OwnI; rw [vals_snoc, List.length_append]; exact HOWN.out
          · exact (HBI1.out.alloc hsb1 _).grown HGROW.out (by simp; omega) (fun q hq => (World.ownsRow.lt HOI1.out q hq).1)
          · by_cases e : j = k
            · subst e; exact HLS.out
            · exact HALL.out j (by omega)
        case measure => simp [intOf]; omega
      · have HPE := Lib.hid (show zs.take k = P by rw [HP.out]; exact take_low HPW.out hk HALL.out (.inr (by omega)))
        clear HTN htl
        have hpl : P.length ≤ 7 := by
          rw [← HPE.out, List.length_take]; omega
        have hop := HOI1.out
        rw [HPE.out] at hop
        have HOP := Lib.hid hop
        have HBP := Lib.hid HBI1.out
        have hsp := hsb1
        clear hop
        go_wp2_with (at_builtin; refine wpList_append_own _ rfl _ _ 28 rfl w.heap.size 2 i0 (.int .i64 0) 1 8 Tryd.underlying28 hi hz0 hz1 hz2 rfl (by decide) _ _ _ rfl (World.ownsRow.alloc HOP.out _) ⟨wr.heap.size, 0, none⟩ 1 1 [.int .i64 h] rfl rfl (cell_one_new _ _ _) (by simp [Value.oneCell']) (by unfold maxLen; omega) (by omega) (by simp; omega) ?_; intro v' w4 hown hgrow _; have HOWN := Lib.hid hown; have HGROW := Lib.hid hgrow; clear hown hgrow)
        have HOQ := Lib.hid (show OwnI w4 w.heap.size v' (P ++ [(h : Int)]) by unfold OwnI; rw [vals_snoc, List.length_append]; exact HOWN.out)
        have HBQ := Lib.hid (show Below w.heap.size w w4 from (HBP.out.alloc hsp _).grown HGROW.out (by simp; omega) (fun q hq => (World.ownsRow.lt HOP.out q hq).1))
        clear HOWN HGROW
        have hql : (P ++ [(h : Int)]).length ≤ 8 := by simp; omega

        generalize hQQ : P ++ [(h : Int)] = Q at *
        clear hQQ
        go_loopw [7, 9] (fun v i wi => ∃ k, k ≤ zs.length ∧ i = .int .i64 (k : Nat) ∧ OwnI wi w.heap.size v (Q ++ ((zs.take k).filter fun z => decide ((h : Int) ≤ z)).map (· + 1)) ∧ Below w.heap.size w wi)
          (fun _ i _ => zs.length - (intOf i).toNat)
        case atStart => exact ⟨0, Nat.zero_le _, rfl, by simpa using HOQ.out, HBQ.out⟩
        case round =>
          obtain ⟨k, hk, rfl, ho, hb⟩ := hrel
          have HOI := Lib.hid ho
          have HBI := Lib.hid hb
          have hsb := hb.size
          have hrs := HR.out.step hb
          clear ho hb
          by_cases hlt : k < zs.length
          · rcases hrs with h0 | ⟨b2, o2, hab, hc⟩
            · rw [h0] at hlt; exact absurd hlt (Nat.not_lt_zero _)
            cases hab
            have hcell := hc k hlt
            have hi0 : (k : Int) < (zs.length : Int) := by omega
            obtain ⟨z0, z1⟩ := HZ.out k hlt
            have HTN := Lib.hid (show zs.take (k + 1) = zs.take k ++ [nth zs k] by rw [nth_lt hlt]; exact List.take_succ_eq_append_getElem hlt)
            have hfl : (((zs.take k).filter fun z => decide ((h : Int) ≤ z)).map (· + 1)).length ≤ 7 := by
              rw [List.length_map]
              refine Nat.le_trans (List.length_filter_le _ _) ?_
              rw [List.length_take]; omega
            clear hc
            by_cases hge : (h : Int) ≤ nth zs k
            · have HST := Lib.hid (show Q ++ ((zs.take (k + 1)).filter fun z => decide ((h : Int) ≤ z)).map (· + 1) = (Q ++ ((zs.take k).filter fun z => decide ((h : Int) ≤ z)).map (· + 1)) ++ [nth zs k + 1] by
                rw [HTN.out]; simp [List.filter_append, hge])
              generalize nth zs k = z at *
              have hfq : (Q ++ ((zs.take k).filter fun z => decide ((h : Int) ≤ z)).map (· + 1)).length ≤ 20 := by rw [List.length_append]; omega
              generalize hM : Q ++ ((zs.take k).filter fun z => decide ((h : Int) ≤ z)).map (· + 1) = M at *
              clear hM hfl
              go_wp2_with (at_builtin; refine wpList_append_own _ rfl _ _ 28 rfl w.heap.size 2 i0 (.int .i64 0) 1 8 Tryd.underlying28 hi hz0 hz1 hz2 rfl (by decide) _ _ _ rfl (World.ownsRow.alloc HOI.out _) ⟨wr.heap.size, 0, none⟩ 1 1 [.int .i64 (z + 1)] rfl rfl (cell_one_new _ _ _) (by simp [Value.oneCell']) (by unfold maxLen; omega) (by omega) (by simp; omega) ?_; intro v' w5 hown hgrow _; have HOWN := Lib.hid hown; have HGROW := Lib.hid hgrow; clear hown hgrow)
              go_wp2
              go_roundw
              case rel =>
                refine ⟨k + 1, by omega, by go_num, ?_, ?_⟩
                · rw [HST.out]; unfold OwnI; rw [vals_snoc, List.length_append]; exact HOWN.out
                · exact (HBI.out.alloc hsb _).grown HGROW.out (by simp; omega) (fun q hq => (World.ownsRow.lt HOI.out q hq).1)
              case measure => simp [intOf]; omega
            · have HST := Lib.hid (show Q ++ ((zs.take (k + 1)).filter fun z => decide ((h : Int) ≤ z)).map (· + 1) = (Q ++ ((zs.take k).filter fun z => decide ((h : Int) ≤ z)).map (· + 1)) by
                rw [HTN.out]; simp [List.filter_append, hge])
              generalize nth zs k = z at *
              go_wp2_with fail
              go_roundw
              case rel => exact ⟨k + 1, by omega, by go_num, by rw [HST.out]; exact HOI.out, HBI.out⟩
              case measure => simp [intOf]; omega
          · have hi0 : ¬ (k : Int) < (zs.length : Int) := by omega
            have HKL := Lib.hid (show zs.take k = zs from List.take_of_length_le (by omega))
            go_wp2_with fail
            go_ret
            refine ⟨⟨_, rfl, ?_⟩, HBI.out⟩
            have h9 := HOI.out
            rw [HKL.out] at h9
            rw [← HFIN.out]
            exact h9
    · have hi0 : ¬ (k : Int) < (zs.length : Int) := by omega
      have HPE := Lib.hid (show zs.take k = P by rw [HP.out]; exact take_low HPW.out hk HALL.out (.inl (by omega)))
      clear hrs
      have hpl : P.length ≤ 7 := by
        rw [← HPE.out, List.length_take]; omega
      have hop := HOI1.out
      rw [HPE.out] at hop
      have HOP := Lib.hid hop
      have HBP := Lib.hid HBI1.out
      have hsp := hsb1
      clear hop
      go_wp2_with (at_builtin; refine wpList_append_own _ rfl _ _ 28 rfl w.heap.size 2 i0 (.int .i64 0) 1 8 Tryd.underlying28 hi hz0 hz1 hz2 rfl (by decide) _ _ _ rfl (World.ownsRow.alloc HOP.out _) ⟨wr.heap.size, 0, none⟩ 1 1 [.int .i64 h] rfl rfl (cell_one_new _ _ _) (by simp [Value.oneCell']) (by unfold maxLen; omega) (by omega) (by simp; omega) ?_; intro v' w4 hown hgrow _; have HOWN := Lib.hid hown; have HGROW := Lib.hid hgrow; clear hown hgrow)
      have HOQ := Lib.hid (show OwnI w4 w.heap.size v' (P ++ [(h : Int)]) by unfold OwnI; rw [vals_snoc, List.length_append]; exact HOWN.out)
      have HBQ := Lib.hid (show Below w.heap.size w w4 from (HBP.out.alloc hsp _).grown HGROW.out (by simp; omega) (fun q hq => (World.ownsRow.lt HOP.out q hq).1))
      clear HOWN HGROW
      have hql : (P ++ [(h : Int)]).length ≤ 8 := by simp; omega

      generalize hQQ : P ++ [(h : Int)] = Q at *
      clear hQQ
      go_loopw [7, 9] (fun v i wi => ∃ k, k ≤ zs.length ∧ i = .int .i64 (k : Nat) ∧ OwnI wi w.heap.size v (Q ++ ((zs.take k).filter fun z => decide ((h : Int) ≤ z)).map (· + 1)) ∧ Below w.heap.size w wi)
        (fun _ i _ => zs.length - (intOf i).toNat)
      case atStart => exact ⟨0, Nat.zero_le _, rfl, by simpa using HOQ.out, HBQ.out⟩
      case round =>
        obtain ⟨k, hk, rfl, ho, hb⟩ := hrel
        have HOI := Lib.hid ho
        have HBI := Lib.hid hb
        have hsb := hb.size
        have hrs := HR.out.step hb
        clear ho hb
        by_cases hlt : k < zs.length
        · rcases hrs with h0 | ⟨b2, o2, hab, hc⟩
          · rw [h0] at hlt; exact absurd hlt (Nat.not_lt_zero _)
          cases hab
          have hcell := hc k hlt
          have hi0 : (k : Int) < (zs.length : Int) := by omega
          obtain ⟨z0, z1⟩ := HZ.out k hlt
          have HTN := Lib.hid (show zs.take (k + 1) = zs.take k ++ [nth zs k] by rw [nth_lt hlt]; exact List.take_succ_eq_append_getElem hlt)
          have hfl : (((zs.take k).filter fun z => decide ((h : Int) ≤ z)).map (· + 1)).length ≤ 7 := by
            rw [List.length_map]
            refine Nat.le_trans (List.length_filter_le _ _) ?_
            rw [List.length_take]; omega
          clear hc
          by_cases hge : (h : Int) ≤ nth zs k
          · have HST := Lib.hid (show Q ++ ((zs.take (k + 1)).filter fun z => decide ((h : Int) ≤ z)).map (· + 1) = (Q ++ ((zs.take k).filter fun z => decide ((h : Int) ≤ z)).map (· + 1)) ++ [nth zs k + 1] by
              rw [HTN.out]; simp [List.filter_append, hge])
            generalize nth zs k = z at *
            have hfq : (Q ++ ((zs.take k).filter fun z => decide ((h : Int) ≤ z)).map (· + 1)).length ≤ 20 := by rw [List.length_append]; omega
            generalize hM : Q ++ ((zs.take k).filter fun z => decide ((h : Int) ≤ z)).map (· + 1) = M at *
            clear hM hfl
            go_wp2_with (at_builtin; refine wpList_append_own _ rfl _ _ 28 rfl w.heap.size 2 i0 (.int .i64 0) 1 8 Tryd.underlying28 hi hz0 hz1 hz2 rfl (by decide) _ _ _ rfl (World.ownsRow.alloc HOI.out _) ⟨wr.heap.size, 0, none⟩ 1 1 [.int .i64 (z + 1)] rfl rfl (cell_one_new _ _ _) (by simp [Value.oneCell']) (by unfold maxLen; omega) (by omega) (by simp; omega) ?_; intro v' w5 hown hgrow _; have HOWN := Lib.hid hown; have HGROW := Lib.hid hgrow; clear hown hgrow)
            go_wp2
            go_roundw
            case rel =>
              refine ⟨k + 1, by omega, by go_num, ?_, ?_⟩
              · rw [HST.out]; unfold OwnI; rw [vals_snoc, List.length_append]; exact HOWN.out
              · exact (HBI.out.alloc hsb _).grown HGROW.out (by simp; omega) (fun q hq => (World.ownsRow.lt HOI.out q hq).1)
            case measure => simp [intOf]; omega
          · have HST := Lib.hid (show Q ++ ((zs.take (k + 1)).filter fun z => decide ((h : Int) ≤ z)).map (· + 1) = (Q ++ ((zs.take k).filter fun z => decide ((h : Int) ≤ z)).map (· + 1)) by
              rw [HTN.out]; simp [List.filter_append, hge])
            generalize nth zs k = z at *
            go_wp2_with fail
            go_roundw
            case rel => exact ⟨k + 1, by omega, by go_num, by rw [HST.out]; exact HOI.out, HBI.out⟩
            case measure => simp [intOf]; omega
        · have hi0 : ¬ (k : Int) < (zs.length : Int) := by omega
          have HKL := Lib.hid (show zs.take k = zs from List.take_of_length_le (by omega))
          go_wp2_with fail
          go_ret
          refine ⟨⟨_, rfl, ?_⟩, HBI.out⟩
          have h9 := HOI.out
          rw [HKL.out] at h9
          rw [← HFIN.out]
          exact h9
set_option maxRecDepth 100000 in
set_option maxHeartbeats 2000000 in
theorem a2Wide_false (a : Option Addr) (x c h n : Nat) (w : World) (hr : Ints w a (listOf x)) (hx : x < 2 ^ n) (hn : n ≤ 6) (hh : h ≤ n) :
    Calls Tryd.prog 29 #[.slice a (listOf x).length c, .int .i64 (h : Nat), .bool false] w (GivesInts w (listOf (minN false h x))) := by
  obtain ⟨i0, hi, hz0, hz1, hz2⟩ := info_parts Tryd.infoInt64
  have hx64 : x < 64 := by have : (2 : Nat) ^ n ≤ 2 ^ 6 := Nat.pow_le_pow_right (by decide) hn; omega
  have HFIN := Lib.hid (show ((listOf x).filter fun z => decide (z < (h : Int))) ++ (((listOf x).filter fun z => decide ((h : Int) ≤ z)).map (· + 1)) = listOf (minN false h x) by
    have h9 := wide_fact h (by omega) x hx64 false
    rw [show (if false = true then [(h : Int)] else []) = [] from rfl, List.append_nil] at h9
    exact h9)
  have hg := grp_list (m := n) (by omega) hx
  have hpw := grp_pairwise hg
  have HZ := Lib.hid (show ∀ k, k < (listOf x).length → 0 ≤ nth (listOf x) k ∧ nth (listOf x) k ≤ 6 from fun k hk => by
    have := grp_mem hg (nth (listOf x) k) (by rw [nth_lt hk]; exact List.getElem_mem _)
    omega)
  have hl7 : (listOf x).length ≤ 7 := listTo_len x 7
  have HR := Lib.hid hr
  have HPW := Lib.hid hpw
  clear hr hx hg hpw hx64
  generalize listOf (minN false h x) = Y at *
  generalize listOf x = zs at *
  obtain ⟨P, hP⟩ : ∃ P, P = zs.filter fun z => decide (z < (h : Int)) := ⟨_, rfl⟩
  rw [← hP] at HFIN
  have HP := Lib.hid hP
  clear hP
  go_enter Tryd.func29, Tryd.ntmps29
  go_wp2_with fail
  have hown : OwnI (w.alloc (.cells #[] 2)) w.heap.size (.slice (some ⟨w.heap.size, 0, none⟩) 0 0) [] := World.ownsRow_made w #[] 0 (Nat.le_refl _) (by unfold maxLen; omega) rfl
  have hb1 := (Below.refl w.heap.size w).alloc (Nat.le_refl _) (.cells #[] 2)
  generalize (Value.slice (some ⟨w.heap.size, 0, none⟩) 0 0) = v0 at *
  go_loopw [7, 8] (fun v i wr => ∃ k : Nat, k ≤ zs.length ∧ i = .int .i64 k ∧ OwnI wr w.heap.size v (zs.take k) ∧ Below w.heap.size w wr ∧ ∀ j, j < k → nth zs j < (h : Int))
    (fun _ i _ => zs.length - (intOf i).toNat)
  case atStart => exact ⟨0, by omega, rfl, by simpa using hown, hb1, fun j hj => absurd hj (Nat.not_lt_zero _)⟩
  case round =>
    obtain ⟨k, hk, rfl, ho, hb, hall⟩ := hrel
    have HOI1 := Lib.hid ho
    have HBI1 := Lib.hid hb
    have hsb1 := hb.size
    have HALL := Lib.hid hall
    have hrs := HR.out.step hb
    clear ho hb hall hown hb1
    by_cases hlt : k < zs.length
    · rcases hrs with h0 | ⟨b, o, rfl, hc⟩
      · rw [h0] at hlt; exact absurd hlt (Nat.not_lt_zero _)
      have hcell := hc k hlt
      have hi0 : (k : Int) < (zs.length : Int) := by omega
      have HTN := Lib.hid (show zs.take (k + 1) = zs.take k ++ [nth zs k] by rw [nth_lt hlt]; exact List.take_succ_eq_append_getElem hlt)
      have htl : (zs.take k).length ≤ 7 := by rw [List.length_take]; omega
      clear hc
      by_cases hls : nth zs k < (h : Int)
      · have HLS := Lib.hid hls
        obtain ⟨z, hz⟩ : ∃ z, nth zs k = z := ⟨_, rfl⟩
        have HZZ := Lib.hid hz
        rw [hz] at hcell hls HTN
        clear hz
        go_wp2_with (at_builtin; refine wpList_append_own _ rfl _ _ 28 rfl w.heap.size 2 i0 (.int .i64 0) 1 8 Tryd.underlying28 hi hz0 hz1 hz2 rfl (by decide) _ _ _ rfl (World.ownsRow.alloc HOI1.out _) ⟨wr.heap.size, 0, none⟩ 1 1 [.int .i64 z] rfl rfl (cell_one_new _ _ _) (by simp [Value.oneCell']) (by unfold maxLen; omega) (by omega) (by simp; omega) ?_; intro v' w5 hown hgrow _; have HOWN := Lib.hid hown; have HGROW := Lib.hid hgrow; clear hown hgrow)
        go_wp2
        go_roundw
        case rel =>
          refine ⟨k + 1, by omega, by go_num, ?_, ?_, fun j hj => ?_⟩
          · rw [HTN.out]; unfold OwnI; rw [vals_snoc, List.length_append]; exact HOWN.out
          · exact (HBI1.out.alloc hsb1 _).grown HGROW.out (by simp; omega) (fun q hq => (World.ownsRow.lt HOI1.out q hq).1)
          · by_cases e : j = k
            · subst e; exact HLS.out
            · exact HALL.out j (by omega)
        case measure => simp [intOf]; omega
      · have HPE := Lib.hid (show zs.take k = P by rw [HP.out]; exact take_low HPW.out hk HALL.out (.inr (by omega)))
        clear HTN htl
        have hpl : P.length ≤ 7 := by
          rw [← HPE.out, List.length_take]; omega
        have hop := HOI1.out
        rw [HPE.out] at hop
        have HOP := Lib.hid hop
        have HBP := Lib.hid HBI1.out
        have hsp := hsb1
        clear hop
        go_wp2_with fail
        have HOQ := Lib.hid HOP.out
        have HBQ := Lib.hid HBP.out
        have hql : P.length ≤ 8 := by omega

        generalize hQQ : P = Q at *
        clear hQQ
        go_loopw [7, 9] (fun v i wi => ∃ k, k ≤ zs.length ∧ i = .int .i64 (k : Nat) ∧ OwnI wi w.heap.size v (Q ++ ((zs.take k).filter fun z => decide ((h : Int) ≤ z)).map (· + 1)) ∧ Below w.heap.size w wi)
          (fun _ i _ => zs.length - (intOf i).toNat)
        case atStart => exact ⟨0, Nat.zero_le _, rfl, by simpa using HOQ.out, HBQ.out⟩
        case round =>
          obtain ⟨k, hk, rfl, ho, hb⟩ := hrel
          have HOI := Lib.hid ho
          have HBI := Lib.hid hb
          have hsb := hb.size
          have hrs := HR.out.step hb
          clear ho hb
          by_cases hlt : k < zs.length
          · rcases hrs with h0 | ⟨b2, o2, hab, hc⟩
            · rw [h0] at hlt; exact absurd hlt (Nat.not_lt_zero _)
            cases hab
            have hcell := hc k hlt
            have hi0 : (k : Int) < (zs.length : Int) := by omega
            obtain ⟨z0, z1⟩ := HZ.out k hlt
            have HTN := Lib.hid (show zs.take (k + 1) = zs.take k ++ [nth zs k] by rw [nth_lt hlt]; exact List.take_succ_eq_append_getElem hlt)
            have hfl : (((zs.take k).filter fun z => decide ((h : Int) ≤ z)).map (· + 1)).length ≤ 7 := by
              rw [List.length_map]
              refine Nat.le_trans (List.length_filter_le _ _) ?_
              rw [List.length_take]; omega
            clear hc
            by_cases hge : (h : Int) ≤ nth zs k
            · have HST := Lib.hid (show Q ++ ((zs.take (k + 1)).filter fun z => decide ((h : Int) ≤ z)).map (· + 1) = (Q ++ ((zs.take k).filter fun z => decide ((h : Int) ≤ z)).map (· + 1)) ++ [nth zs k + 1] by
                rw [HTN.out]; simp [List.filter_append, hge])
              generalize nth zs k = z at *
              have hfq : (Q ++ ((zs.take k).filter fun z => decide ((h : Int) ≤ z)).map (· + 1)).length ≤ 20 := by rw [List.length_append]; omega
              generalize hM : Q ++ ((zs.take k).filter fun z => decide ((h : Int) ≤ z)).map (· + 1) = M at *
              clear hM hfl
              go_wp2_with (at_builtin; refine wpList_append_own _ rfl _ _ 28 rfl w.heap.size 2 i0 (.int .i64 0) 1 8 Tryd.underlying28 hi hz0 hz1 hz2 rfl (by decide) _ _ _ rfl (World.ownsRow.alloc HOI.out _) ⟨wr.heap.size, 0, none⟩ 1 1 [.int .i64 (z + 1)] rfl rfl (cell_one_new _ _ _) (by simp [Value.oneCell']) (by unfold maxLen; omega) (by omega) (by simp; omega) ?_; intro v' w5 hown hgrow _; have HOWN := Lib.hid hown; have HGROW := Lib.hid hgrow; clear hown hgrow)
              go_wp2
              go_roundw
              case rel =>
                refine ⟨k + 1, by omega, by go_num, ?_, ?_⟩
                · rw [HST.out]; unfold OwnI; rw [vals_snoc, List.length_append]; exact HOWN.out
                · exact (HBI.out.alloc hsb _).grown HGROW.out (by simp; omega) (fun q hq => (World.ownsRow.lt HOI.out q hq).1)
              case measure => simp [intOf]; omega
            · have HST := Lib.hid (show Q ++ ((zs.take (k + 1)).filter fun z => decide ((h : Int) ≤ z)).map (· + 1) = (Q ++ ((zs.take k).filter fun z => decide ((h : Int) ≤ z)).map (· + 1)) by
                rw [HTN.out]; simp [List.filter_append, hge])
              generalize nth zs k = z at *
              go_wp2_with fail
              go_roundw
              case rel => exact ⟨k + 1, by omega, by go_num, by rw [HST.out]; exact HOI.out, HBI.out⟩
              case measure => simp [intOf]; omega
          · have hi0 : ¬ (k : Int) < (zs.length : Int) := by omega
            have HKL := Lib.hid (show zs.take k = zs from List.take_of_length_le (by omega))
            go_wp2_with fail
            go_ret
            refine ⟨⟨_, rfl, ?_⟩, HBI.out⟩
            have h9 := HOI.out
            rw [HKL.out] at h9
            rw [← HFIN.out]
            exact h9
    · have hi0 : ¬ (k : Int) < (zs.length : Int) := by omega
      have HPE := Lib.hid (show zs.take k = P by rw [HP.out]; exact take_low HPW.out hk HALL.out (.inl (by omega)))
      clear hrs
      have hpl : P.length ≤ 7 := by
        rw [← HPE.out, List.length_take]; omega
      have hop := HOI1.out
      rw [HPE.out] at hop
      have HOP := Lib.hid hop
      have HBP := Lib.hid HBI1.out
      have hsp := hsb1
      clear hop
      go_wp2_with fail
      have HOQ := Lib.hid HOP.out
      have HBQ := Lib.hid HBP.out
      have hql : P.length ≤ 8 := by omega

      generalize hQQ : P = Q at *
      clear hQQ
      go_loopw [7, 9] (fun v i wi => ∃ k, k ≤ zs.length ∧ i = .int .i64 (k : Nat) ∧ OwnI wi w.heap.size v (Q ++ ((zs.take k).filter fun z => decide ((h : Int) ≤ z)).map (· + 1)) ∧ Below w.heap.size w wi)
        (fun _ i _ => zs.length - (intOf i).toNat)
      case atStart => exact ⟨0, Nat.zero_le _, rfl, by simpa using HOQ.out, HBQ.out⟩
      case round =>
        obtain ⟨k, hk, rfl, ho, hb⟩ := hrel
        have HOI := Lib.hid ho
        have HBI := Lib.hid hb
        have hsb := hb.size
        have hrs := HR.out.step hb
        clear ho hb
        by_cases hlt : k < zs.length
        · rcases hrs with h0 | ⟨b2, o2, hab, hc⟩
          · rw [h0] at hlt; exact absurd hlt (Nat.not_lt_zero _)
          cases hab
          have hcell := hc k hlt
          have hi0 : (k : Int) < (zs.length : Int) := by omega
          obtain ⟨z0, z1⟩ := HZ.out k hlt
          have HTN := Lib.hid (show zs.take (k + 1) = zs.take k ++ [nth zs k] by rw [nth_lt hlt]; exact List.take_succ_eq_append_getElem hlt)
          have hfl : (((zs.take k).filter fun z => decide ((h : Int) ≤ z)).map (· + 1)).length ≤ 7 := by
            rw [List.length_map]
            refine Nat.le_trans (List.length_filter_le _ _) ?_
            rw [List.length_take]; omega
          clear hc
          by_cases hge : (h : Int) ≤ nth zs k
          · have HST := Lib.hid (show Q ++ ((zs.take (k + 1)).filter fun z => decide ((h : Int) ≤ z)).map (· + 1) = (Q ++ ((zs.take k).filter fun z => decide ((h : Int) ≤ z)).map (· + 1)) ++ [nth zs k + 1] by
              rw [HTN.out]; simp [List.filter_append, hge])
            generalize nth zs k = z at *
            have hfq : (Q ++ ((zs.take k).filter fun z => decide ((h : Int) ≤ z)).map (· + 1)).length ≤ 20 := by rw [List.length_append]; omega
            generalize hM : Q ++ ((zs.take k).filter fun z => decide ((h : Int) ≤ z)).map (· + 1) = M at *
            clear hM hfl
            go_wp2_with (at_builtin; refine wpList_append_own _ rfl _ _ 28 rfl w.heap.size 2 i0 (.int .i64 0) 1 8 Tryd.underlying28 hi hz0 hz1 hz2 rfl (by decide) _ _ _ rfl (World.ownsRow.alloc HOI.out _) ⟨wr.heap.size, 0, none⟩ 1 1 [.int .i64 (z + 1)] rfl rfl (cell_one_new _ _ _) (by simp [Value.oneCell']) (by unfold maxLen; omega) (by omega) (by simp; omega) ?_; intro v' w5 hown hgrow _; have HOWN := Lib.hid hown; have HGROW := Lib.hid hgrow; clear hown hgrow)
            go_wp2
            go_roundw
            case rel =>
              refine ⟨k + 1, by omega, by go_num, ?_, ?_⟩
              · rw [HST.out]; unfold OwnI; rw [vals_snoc, List.length_append]; exact HOWN.out
              · exact (HBI.out.alloc hsb _).grown HGROW.out (by simp; omega) (fun q hq => (World.ownsRow.lt HOI.out q hq).1)
            case measure => simp [intOf]; omega
          · have HST := Lib.hid (show Q ++ ((zs.take (k + 1)).filter fun z => decide ((h : Int) ≤ z)).map (· + 1) = (Q ++ ((zs.take k).filter fun z => decide ((h : Int) ≤ z)).map (· + 1)) by
              rw [HTN.out]; simp [List.filter_append, hge])
            generalize nth zs k = z at *
            go_wp2_with fail
            go_roundw
            case rel => exact ⟨k + 1, by omega, by go_num, by rw [HST.out]; exact HOI.out, HBI.out⟩
            case measure => simp [intOf]; omega
        · have hi0 : ¬ (k : Int) < (zs.length : Int) := by omega
          have HKL := Lib.hid (show zs.take k = zs from List.take_of_length_le (by omega))
          go_wp2_with fail
          go_ret
          refine ⟨⟨_, rfl, ?_⟩, HBI.out⟩
          have h9 := HOI.out
          rw [HKL.out] at h9
          rw [← HFIN.out]
          exact h9
end Go.Proofs.YteifllengcacbaaDoor

namespace Go.Proofs.YteifllengcacbaaDoor
open Go.RowKit Go.Deep Go.Joins
set_option linter.unusedVariables false

theorem dualG {m : Nat} (a : Option Addr) (zss : List (List Int)) (c : Nat) (w : World) (m1 : 1 ≤ m) (h7 : m ≤ 7) (hf : FamOk (m : Int) zss) (hr : Rows2 w a zss) :
    Calls Tryd.prog 23 #[.agg #[.int .i64 (m : Nat), .slice a zss.length c]] w fun e w' => GF w' m (dualB m zss) e ∧ Below w.heap.size w w' := by
  have h := implDual_any (m : Int) a zss c w hr (fam_small h7 hf)
  rw [dualOf_yes hf] at h
  exact h.mono fun e w' g => ⟨GF.of m1 h7 (dual_mono m zss) g, g.below⟩
end Go.Proofs.YteifllengcacbaaDoor

namespace Go.Proofs.YteifllengcacbaaDoor
open Go.RowKit Go.Deep Go.Joins
set_option linter.unusedVariables false

theorem wide_bits : ∀ k : Nat, k < 7 → ∀ x : Nat, x < 64 → ∀ j : Nat, j < 7 → (wideN k x).testBit j = ((decide (j < k) && x.testBit j) || (decide (k < j) && x.testBit (j - 1))) := by decide +kernel
theorem wide_inb {k x y : Nat} (hk : k < 7) (hx : x < 64) (hy : y < 64) (hkx : wideN k x < 128) (h : Inb x y) : Inb (wideN k x) (wideN k y) := fun j hj => by
  have hj7 : j < 7 := bit_lt (m := 7) hkx hj
  rw [wide_bits k hk x hx j hj7] at hj
  rw [wide_bits k hk y hy j hj7]
  simp only [Bool.or_eq_true, Bool.and_eq_true, decide_eq_true_eq] at hj ⊢
  exact hj.imp (fun h1 => ⟨h1.1, h j h1.2⟩) (fun h1 => ⟨h1.1, h _ h1.2⟩)
theorem min_inb {tr : Bool} {k x y : Nat} (hk : k < 7) (hx : x < 64) (hy : y < 64) (hkx : wideN k x < 128) (h : Inb x y) : Inb (minN tr k x) (minN tr k y) := by
  have h1 := wide_inb hk hx hy hkx h
  unfold minN
  cases tr with
  | false => simpa using h1
  | true =>
    intro j hj
    simp only [if_true] at hj ⊢
    rw [Nat.testBit_or, Bool.or_eq_true] at hj ⊢
    exact hj.imp (h1 j) id
theorem pow_64 {n : Nat} (h : n ≤ 6) : 2 ^ n ≤ 64 := by
  have : (2 : Nat) ^ n ≤ 2 ^ 6 := Nat.pow_le_pow_right (by decide) h
  omega
theorem min_mono {n j : Nat} (tr : Bool) (hn : n ≤ 6) (hj : j ≤ n) (zss : List (List Int)) : Mono n (minB tr j zss) := fun x y hx hy hs h => by
  have h6 := pow_64 hn
  have h128 := pow_128 (show n + 1 ≤ 7 by omega)
  have lx : minN tr j x < 2 ^ (n + 1) := minN_lt tr (by omega) (by omega) (by simpa using hx)
  have ly : minN tr j y < 2 ^ (n + 1) := minN_lt tr (by omega) (by omega) (by simpa using hy)
  have hw : wideN j x < 2 ^ (n + 1) := wide_lt (n + 1) (by omega) j (by omega) x (by omega) (by simpa using hx)
  exact tbl_mono (n + 1) zss zss.length _ _ lx ly (min_inb (by omega) (by omega) (by omega) (by omega) hs) h
theorem withoutG {m n j : Nat} (a : Option Addr) (zss : List (List Int)) (c : Nat) (w : World) (hm : m = n + 1) (n1 : 1 ≤ n) (h7 : n ≤ 6) (hj : j ≤ n) (hf : FamOk (m : Int) zss) (hr : Rows2 w a zss) :
    Calls Tryd.prog 27 #[.agg #[.int .i64 (m : Nat), .slice a zss.length c], .int .i64 (j : Nat)] w fun e w' => GF w' n (minB false j zss) e ∧ Below w.heap.size w w' := by
  have h := implWo_any (m : Int) a zss c (j : Int) w hr (fam_small (by omega) hf) (by simp [Lit.wf, IntKind.min, IntKind.max, IntKind.signed, IntKind.bits]; omega)
  rw [min_in hf (by omega) (by omega), show m - 1 = n by omega, show (m : Int) - 1 = (n : Nat) by omega] at h
  exact h.mono fun e w' g => ⟨GF.of n1 (by omega) (min_mono false h7 hj zss) g, g.below⟩
theorem trustG {m n j : Nat} (a : Option Addr) (zss : List (List Int)) (c : Nat) (w : World) (hm : m = n + 1) (n1 : 1 ≤ n) (h7 : n ≤ 6) (hj : j ≤ n) (hf : FamOk (m : Int) zss) (hr : Rows2 w a zss) :
    Calls Tryd.prog 28 #[.agg #[.int .i64 (m : Nat), .slice a zss.length c], .int .i64 (j : Nat)] w fun e w' => GF w' n (minB true j zss) e ∧ Below w.heap.size w w' := by
  have h := implTr_any (m : Int) a zss c (j : Int) w hr (fam_small (by omega) hf) (by simp [Lit.wf, IntKind.min, IntKind.max, IntKind.signed, IntKind.bits]; omega)
  rw [min_in hf (by omega) (by omega), show m - 1 = n by omega, show (m : Int) - 1 = (n : Nat) by omega] at h
  exact h.mono fun e w' g => ⟨GF.of n1 (by omega) (min_mono true h7 hj zss) g, g.below⟩
/-- The last holder of one alone is not taken out. -/
theorem without1 (a : Option Addr) (zss : List (List Int)) (c : Nat) (w : World) (hf : FamOk (1 : Int) zss) (hr : Rows2 w a zss) :
    Calls Tryd.prog 27 #[.agg #[.int .i64 1, .slice a zss.length c], .int .i64 0] w fun e w' => (∃ a c, e = .returned (.tuple #[.agg #[.int .i64 0, .slice a ([] : List (List Int)).length c], .int .i64 4])) ∧ Below w.heap.size w w' := by
  have h := implWo_any 1 a zss c 0 w hr (fam_small (m := 1) (by omega) hf) (by decide)
  rw [min_one hf (by omega) rfl] at h
  exact h.mono fun e w' g => ⟨by
    obtain ⟨v, us, rfl, hrow, hrows⟩ := g.val
    obtain ⟨a, c, hv, hr⟩ := Own.rows2 (zss := []) ⟨hrow, hrows⟩
    subst hv
    exact ⟨a, c, rfl⟩, g.below⟩
theorem trust1 (a : Option Addr) (zss : List (List Int)) (c : Nat) (w : World) (hf : FamOk (1 : Int) zss) (hr : Rows2 w a zss) :
    Calls Tryd.prog 28 #[.agg #[.int .i64 1, .slice a zss.length c], .int .i64 0] w fun e w' => (∃ a c, e = .returned (.tuple #[.agg #[.int .i64 0, .slice a ([] : List (List Int)).length c], .int .i64 4])) ∧ Below w.heap.size w w' := by
  have h := implTr_any 1 a zss c 0 w hr (fam_small (m := 1) (by omega) hf) (by decide)
  rw [min_one hf (by omega) rfl] at h
  exact h.mono fun e w' g => ⟨by
    obtain ⟨v, us, rfl, hrow, hrows⟩ := g.val
    obtain ⟨a, c, hv, hr⟩ := Own.rows2 (zss := []) ⟨hrow, hrows⟩
    subst hv
    exact ⟨a, c, rfl⟩, g.below⟩
/-- All others of a group with room for a holder: with the holder they are all others. -/
theorem off_wide : ∀ n : Nat, n < 7 → ∀ k : Nat, k < 7 → k ≤ n → ∀ x : Nat, x < 64 → x < 2 ^ n → 2 ^ (n + 1) - 1 - minN false k (2 ^ n - 1 - x) = minN true k x := by decide +kernel
end Go.Proofs.YteifllengcacbaaDoor

namespace Go.Proofs.YteifllengcacbaaDoor
open Go.ChangeShapes Go.WideShapes Go.ChangeAt Go.RowKit Go.Deep Go.Joins
set_option linter.unusedVariables false
namespace Minors

set_option maxRecDepth 100000 in
set_option maxHeartbeats 8000000 in
theorem law (a0 : Option Addr) (z0 : List Int) (c0 : Nat) (a1 : Option Addr) (z1 : List Int) (c1 : Nat) (w : World) (hr0 : Bytes w a0 z0) (hl0 : z0.length ≤ 9223372036854775807) (hr1 : Bytes w a1 z1) (hl1 : z1.length ≤ 9223372036854775807) :
    Calls Tryd.prog 6 #[.slice a0 z0.length c0, .slice a1 z1.length c1] w fun e w' => e = .returned (.bool true) ∧ Below w.heap.size w w' := by
  have R0 := Lib.hid hr0
  have R1 := Lib.hid hr1
  clear hr0 hr1
  by_cases hlong : 3000 < z0.length ∨ 3000 < z1.length
  · have HT := Lib.hid (tell_true hlong)
    clear hlong
    go_enter Tryd.func6, Tryd.ntmps6
    go_wp2_with fail
    refine (a2Long_any a0 a1 z0 z1 c0 c1 w).mono ?_
    rintro e w' ⟨rfl, rfl⟩
    rw [HT.out]
    go_wp2_with fail
    go_ret
    exact ⟨rfl, Below.refl _ _⟩
  have HT := Lib.hid (tell_false hlong)
  have s0 : z0.length ≤ 3000 := by omega
  have s1 : z1.length ≤ 3000 := by omega
  clear hlong
  go_enter Tryd.func6, Tryd.ntmps6
  go_wp2_with fail
  refine (a2Long_any a0 a1 z0 z1 c0 c1 w).mono ?_
  rintro e w' ⟨rfl, rfl⟩
  rw [HT.out]
  have HBW := Lib.hid (Below.refl w.heap.size w)
  go_wp2_with fail
  refine (A2Family_any a0 z0 c0 w R0.out s0).mono ?_
  rintro e w1 ⟨⟨m, m1, m5, ⟨fa, fz, fc, rfl, hok, hr⟩⟩, hb⟩
  replace R0 := Lib.hid (R0.out.step hb)
  replace R1 := Lib.hid (R1.out.step hb)
  replace HBW := Lib.hid (chain HBW.out hb)
  have HOF := Lib.hid hok
  have HRF := Lib.hid hr
  clear hb hok hr
  have m7 : m ≤ 7 := by omega
  have hba := al_b w1 (.cells #[.int .i64 (m : Nat), .slice fa fz.length fc] 26)
  have hx : Boxes (w1.alloc (.cells #[.int .i64 (m : Nat), .slice fa fz.length fc] 26)) w1.heap.size 26 #[.int .i64 (m : Nat), .slice fa fz.length fc] := World.alloc_heap_new _ _
  go_wp2_with fail
  replace R0 := Lib.hid (R0.out.step hba)
  replace R1 := Lib.hid (R1.out.step hba)
  replace HRF := Lib.hid (HRF.out.step hba)
  replace HBW := Lib.hid (chain HBW.out hba)
  have HXF := Lib.hid hx
  clear hba hx
  generalize w1.alloc (.cells #[.int .i64 (m : Nat), .slice fa fz.length fc] 26) = w2 at *
  generalize w1.heap.size = Fo at *
  have aF0 := HXF.out.c0
  have aF1 := HXF.out.c1
  have aFl := HXF.out.lt
  refine (a2At_any a1 z1 c1 0 m w2 R1.out s1 (by omega) (by omega) (by omega)).mono ?_
  rintro e w' ⟨rfl, rfl⟩
  obtain ⟨hj0, hj1⟩ := atOf_range z1 0 (n := (m : Int)) (by omega)
  obtain ⟨j, hj⟩ : ∃ j : Nat, atOf z1 0 (m : Int) = (j : Int) := ⟨(atOf z1 0 (m : Int)).toNat, by omega⟩
  rw [hj] at hj0 hj1 ⊢
  have hjm : j < m := by omega
  clear hj hj0 hj1
  by_cases hone : m = 1
  · subst hone
    obtain rfl : j = 0 := by omega
    clear hjm
    go_wp2_with fail
    refine (without1 fa fz fc w2 HOF.out HRF.out).mono ?_
    rintro e w3 ⟨⟨na, nc, rfl⟩, hb⟩
    clear aF0 aF1 aFl
    replace R0 := Lib.hid (R0.out.step hb)
    replace R1 := Lib.hid (R1.out.step hb)
    replace HRF := Lib.hid (HRF.out.step hb)
    replace HXF := Lib.hid (HXF.out.step hb)
    replace HBW := Lib.hid (chain HBW.out hb)
    clear hb
    have aF0 := HXF.out.c0
    have aF1 := HXF.out.c1
    have aFl := HXF.out.lt
    go_wp2_with fail
    clear aF0 aF1 aFl
    have hbq := al_b w3 (.cells #[.int .i64 0, .slice na ([] : List (List Int)).length nc] 26)
    have hrq := HRF.out.step hbq
    refine (trust1 fa fz fc _ HOF.out hrq).mono ?_
    rintro e wq ⟨⟨pa, pc, rfl⟩, hb⟩
    have HBQ := Lib.hid (chain (chain HBW.out hbq) hb)
    have hxq := (HXF.out.step hbq).step hb
    have aF0 := hxq.c0
    have aF1 := hxq.c1
    have aFl := hxq.lt
    clear hbq hrq hb hxq
    go_wp2_with fail
    go_ret
    exact ⟨rfl, HBQ.out.alloc HBQ.out.size _⟩
  obtain ⟨n, hm⟩ : ∃ n, m = n + 1 := ⟨m - 1, by omega⟩
  have n1 : 1 ≤ n := by omega
  have n6 : n ≤ 6 := by omega
  have n7 : n ≤ 7 := by omega
  have jn : j ≤ n := by omega
  have t1 : ((m : Int) == (1 : Int)) = false := by simp; omega
  have t2 : (m == 1) = false := by simp; omega
  have t3 : ¬ m = 1 := hone
  have m2 : 2 ≤ m := by omega
  have HM := Lib.hid hm
  clear hm hone
  go_wp2_with fail
  refine (withoutG fa fz fc w2 HM.out n1 n6 jn HOF.out HRF.out).mono ?_
  rintro e w3 ⟨⟨la, lz, lc, rfl, hok, ht, hr⟩, hb⟩
  clear aF0 aF1 aFl
  replace R0 := Lib.hid (R0.out.step hb)
  replace R1 := Lib.hid (R1.out.step hb)
  replace HRF := Lib.hid (HRF.out.step hb)
  replace HXF := Lib.hid (HXF.out.step hb)
  replace HBW := Lib.hid (chain HBW.out hb)
  have HOL := Lib.hid hok
  have HTL := Lib.hid ht
  have HRL := Lib.hid hr
  clear hb hok ht hr
  have hba := al_b w3 (.cells #[.int .i64 (n : Nat), .slice la lz.length lc] 26)
  have hx : Boxes (w3.alloc (.cells #[.int .i64 (n : Nat), .slice la lz.length lc] 26)) w3.heap.size 26 #[.int .i64 (n : Nat), .slice la lz.length lc] := World.alloc_heap_new _ _
  have aF0 := HXF.out.c0
  have aF1 := HXF.out.c1
  have aFl := HXF.out.lt
  go_wp2_with fail
  clear aF0 aF1 aFl
  replace R0 := Lib.hid (R0.out.step hba)
  replace R1 := Lib.hid (R1.out.step hba)
  replace HRF := Lib.hid (HRF.out.step hba)
  replace HXF := Lib.hid (HXF.out.step hba)
  replace HRL := Lib.hid (HRL.out.step hba)
  replace HBW := Lib.hid (chain HBW.out hba)
  have HXL := Lib.hid hx
  clear hba hx
  generalize w3.alloc (.cells #[.int .i64 (n : Nat), .slice la lz.length lc] 26) = w4 at *
  generalize w3.heap.size = Lo at *
  have aF0 := HXF.out.c0
  have aF1 := HXF.out.c1
  have aFl := HXF.out.lt
  have aL0 := HXL.out.c0
  have aL1 := HXL.out.c1
  have aLl := HXL.out.lt
  refine (trustG fa fz fc w4 HM.out n1 n6 jn HOF.out HRF.out).mono ?_
  rintro e w5 ⟨⟨ta, tz, tc, rfl, hok, ht, hr⟩, hb⟩
  clear aF0 aF1 aFl aL0 aL1 aLl
  replace R0 := Lib.hid (R0.out.step hb)
  replace R1 := Lib.hid (R1.out.step hb)
  replace HRF := Lib.hid (HRF.out.step hb)
  replace HXF := Lib.hid (HXF.out.step hb)
  replace HRL := Lib.hid (HRL.out.step hb)
  replace HXL := Lib.hid (HXL.out.step hb)
  replace HBW := Lib.hid (chain HBW.out hb)
  have HOT := Lib.hid hok
  have HTT := Lib.hid ht
  have HRT := Lib.hid hr
  clear hb hok ht hr
  have hba := al_b w5 (.cells #[.int .i64 (n : Nat), .slice ta tz.length tc] 26)
  have hx : Boxes (w5.alloc (.cells #[.int .i64 (n : Nat), .slice ta tz.length tc] 26)) w5.heap.size 26 #[.int .i64 (n : Nat), .slice ta tz.length tc] := World.alloc_heap_new _ _
  have aF0 := HXF.out.c0
  have aF1 := HXF.out.c1
  have aFl := HXF.out.lt
  have aL0 := HXL.out.c0
  have aL1 := HXL.out.c1
  have aLl := HXL.out.lt
  go_wp2_with fail
  clear aF0 aF1 aFl aL0 aL1 aLl
  replace R0 := Lib.hid (R0.out.step hba)
  replace R1 := Lib.hid (R1.out.step hba)
  replace HRF := Lib.hid (HRF.out.step hba)
  replace HXF := Lib.hid (HXF.out.step hba)
  replace HRL := Lib.hid (HRL.out.step hba)
  replace HXL := Lib.hid (HXL.out.step hba)
  replace HRT := Lib.hid (HRT.out.step hba)
  replace HBW := Lib.hid (chain HBW.out hba)
  have HXT := Lib.hid hx
  clear hba hx
  generalize w5.alloc (.cells #[.int .i64 (n : Nat), .slice ta tz.length tc] 26) = w6 at *
  generalize w5.heap.size = To at *
  have aF0 := HXF.out.c0
  have aF1 := HXF.out.c1
  have aFl := HXF.out.lt
  have aL0 := HXL.out.c0
  have aL1 := HXL.out.c1
  have aLl := HXL.out.lt
  have aT0 := HXT.out.c0
  have aT1 := HXT.out.c1
  have aTl := HXT.out.lt
  rw [show (m : Int) - 1 = (n : Nat) by have := HM.out; omega]
  refine (A2Group_any a1 z1 c1 n w6 R1.out s1 n7).mono ?_
  rintro e w7 ⟨⟨x, xa, xc, hx, rfl, hi⟩, hb⟩
  clear aF0 aF1 aFl aL0 aL1 aLl aT0 aT1 aTl
  replace R0 := Lib.hid (R0.out.step hb)
  replace R1 := Lib.hid (R1.out.step hb)
  replace HRF := Lib.hid (HRF.out.step hb)
  replace HXF := Lib.hid (HXF.out.step hb)
  replace HRL := Lib.hid (HRL.out.step hb)
  replace HXL := Lib.hid (HXL.out.step hb)
  replace HRT := Lib.hid (HRT.out.step hb)
  replace HXT := Lib.hid (HXT.out.step hb)
  replace HBW := Lib.hid (chain HBW.out hb)
  have HX := Lib.hid hx
  have HI := Lib.hid hi
  clear hb hx hi
  obtain ⟨ba, hba⟩ : ∃ b, tblAt fz fz.length (minN false j x) = b := ⟨_, rfl⟩
  obtain ⟨bc, hbc⟩ : ∃ b, tblAt fz fz.length (minN true j x) = b := ⟨_, rfl⟩
  have HBA := Lib.hid hba
  have HBC := Lib.hid hbc
  clear hba hbc
  have HW0 := Lib.hid (show minN false j x < 2 ^ m by
    have := minN_lt (m := m) (k := j) (x := x) false m7 hjm (by have := HX.out; rw [HM.out]; simpa using this)
    exact this)
  have HW1 := Lib.hid (show minN true j x < 2 ^ m by
    have := minN_lt (m := m) (k := j) (x := x) true m7 hjm (by have := HX.out; rw [HM.out]; simpa using this)
    exact this)
  have aF0 := HXF.out.c0
  have aF1 := HXF.out.c1
  have aFl := HXF.out.lt
  have aL0 := HXL.out.c0
  have aL1 := HXL.out.c1
  have aLl := HXL.out.lt
  have aT0 := HXT.out.c0
  have aT1 := HXT.out.c1
  have aTl := HXT.out.lt
  go_wp2_with fail
  refine (mayX la lz lc xa xc w7 n7 HX.out HOL.out HRL.out HI.out).mono ?_
  rintro e w8 ⟨rfl, hb⟩
  clear aF0 aF1 aFl aL0 aL1 aLl aT0 aT1 aTl
  replace R0 := Lib.hid (R0.out.step hb)
  replace R1 := Lib.hid (R1.out.step hb)
  replace HRF := Lib.hid (HRF.out.step hb)
  replace HXF := Lib.hid (HXF.out.step hb)
  replace HRL := Lib.hid (HRL.out.step hb)
  replace HXL := Lib.hid (HXL.out.step hb)
  replace HRT := Lib.hid (HRT.out.step hb)
  replace HXT := Lib.hid (HXT.out.step hb)
  replace HI := Lib.hid (HI.out.step hb)
  replace HBW := Lib.hid (chain HBW.out hb)
  clear hb
  rw [show tblAt lz lz.length x = ba by rw [HTL.out x HX.out]; exact HBA.out]
  have aF0 := HXF.out.c0
  have aF1 := HXF.out.c1
  have aFl := HXF.out.lt
  have aL0 := HXL.out.c0
  have aL1 := HXL.out.c1
  have aLl := HXL.out.lt
  have aT0 := HXT.out.c0
  have aT1 := HXT.out.c1
  have aTl := HXT.out.lt
  go_wp2_with fail
  have MK := Lib.hid (show ∀ w' : World, Below w8.heap.size w8 w' → Below w8.heap.size w8 w' ∧ w'.cell? ⟨Fo, 0, none⟩ = some (.int .i64 (m : Nat)) ∧ w'.cell? ⟨Fo, 1, none⟩ = some (.slice fa fz.length fc) from fun w' hw => ⟨hw, cell_step hw aF0, cell_step hw aF1⟩)
  go_region_held3 (fun w' => Below w8.heap.size w8 w' ∧ w'.cell? ⟨Fo, 0, none⟩ = some (.int .i64 (m : Nat)) ∧ w'.cell? ⟨Fo, 1, none⟩ = some (.slice fa fz.length fc)) (first | exact MK.out _ (drew_step _) | exact MK.out _ (chain (‹Below w8.heap.size w8 _ ∧ _›).1 hb) | fail) (first
    | (go_at_call 29; have KK := (‹Below w8.heap.size w8 _ ∧ _›).1; refine (a2Wide_false xa x xc j n _ (HI.out.step KK) HX.out n6 jn).mono ?_; rintro e wh ⟨⟨vh, rfl, hvh⟩, hb⟩; obtain ⟨ah, ch, rfl, hih, -⟩ := hvh.ints; have HIH := Lib.hid hih; clear hvh hih KK)
    | (go_at_call 14; have KK := (‹Below w8.heap.size w8 _ ∧ _›).1; refine (mayX fa fz fc _ _ _ m7 HW0.out HOF.out (HRF.out.step KK) HIH.out).mono ?_; rintro e wg ⟨rfl, hb⟩; rw [HBA.out]; clear KK))
  clear aF0 aF1 aFl aL0 aL1 aLl aT0 aT1 aTl
  all_goals (
    have hb := (‹Below w8.heap.size w8 wg ∧ _›).1
    replace R0 := Lib.hid (R0.out.step hb)
    replace R1 := Lib.hid (R1.out.step hb)
    replace HRF := Lib.hid (HRF.out.step hb)
    replace HXF := Lib.hid (HXF.out.step hb)
    replace HRL := Lib.hid (HRL.out.step hb)
    replace HXL := Lib.hid (HXL.out.step hb)
    replace HRT := Lib.hid (HRT.out.step hb)
    replace HXT := Lib.hid (HXT.out.step hb)
    replace HI := Lib.hid (HI.out.step hb)
    replace HBW := Lib.hid (chain HBW.out hb)
    clear hb
    have aF0 := HXF.out.c0
    have aF1 := HXF.out.c1
    have aFl := HXF.out.lt
    have aL0 := HXL.out.c0
    have aL1 := HXL.out.c1
    have aLl := HXL.out.lt
    have aT0 := HXT.out.c0
    have aT1 := HXT.out.c1
    have aTl := HXT.out.lt
    go_wp2_with fail
    refine (mayX ta tz tc xa xc wg n7 HX.out HOT.out HRT.out HI.out).mono ?_
    rintro e w9 ⟨rfl, hb⟩
    clear aF0 aF1 aFl aL0 aL1 aLl aT0 aT1 aTl
    replace R0 := Lib.hid (R0.out.step hb)
    replace R1 := Lib.hid (R1.out.step hb)
    replace HRF := Lib.hid (HRF.out.step hb)
    replace HXF := Lib.hid (HXF.out.step hb)
    replace HRL := Lib.hid (HRL.out.step hb)
    replace HXL := Lib.hid (HXL.out.step hb)
    replace HRT := Lib.hid (HRT.out.step hb)
    replace HXT := Lib.hid (HXT.out.step hb)
    replace HI := Lib.hid (HI.out.step hb)
    replace HBW := Lib.hid (chain HBW.out hb)
    clear hb
    rw [show tblAt tz tz.length x = bc by rw [HTT.out x HX.out]; exact HBC.out]
    have aF0 := HXF.out.c0
    have aF1 := HXF.out.c1
    have aFl := HXF.out.lt
    have aL0 := HXL.out.c0
    have aL1 := HXL.out.c1
    have aLl := HXL.out.lt
    have aT0 := HXT.out.c0
    have aT1 := HXT.out.c1
    have aTl := HXT.out.lt
    go_wp2_with fail
    have MK := Lib.hid (show ∀ w' : World, Below w9.heap.size w9 w' → Below w9.heap.size w9 w' ∧ w'.cell? ⟨Fo, 0, none⟩ = some (.int .i64 (m : Nat)) ∧ w'.cell? ⟨Fo, 1, none⟩ = some (.slice fa fz.length fc) from fun w' hw => ⟨hw, cell_step hw aF0, cell_step hw aF1⟩)
    go_region_held3 (fun w' => Below w9.heap.size w9 w' ∧ w'.cell? ⟨Fo, 0, none⟩ = some (.int .i64 (m : Nat)) ∧ w'.cell? ⟨Fo, 1, none⟩ = some (.slice fa fz.length fc)) (first | exact MK.out _ (drew_step _) | exact MK.out _ (chain (‹Below w9.heap.size w9 _ ∧ _›).1 hb) | fail) (first
      | (go_at_call 29; have KK := (‹Below w9.heap.size w9 _ ∧ _›).1; refine (a2Wide_true xa x xc j n _ (HI.out.step KK) HX.out n6 jn).mono ?_; rintro e wh ⟨⟨vh, rfl, hvh⟩, hb⟩; obtain ⟨ah, ch, rfl, hih, -⟩ := hvh.ints; have HIH := Lib.hid hih; clear hvh hih KK)
      | (go_at_call 14; have KK := (‹Below w9.heap.size w9 _ ∧ _›).1; refine (mayX fa fz fc _ _ _ m7 HW1.out HOF.out (HRF.out.step KK) HIH.out).mono ?_; rintro e wg ⟨rfl, hb⟩; rw [HBC.out]; clear KK))
    clear aF0 aF1 aFl aL0 aL1 aLl aT0 aT1 aTl
    all_goals (
      have hb := (‹Below w9.heap.size w9 wg ∧ _›).1
      replace R0 := Lib.hid (R0.out.step hb)
      replace R1 := Lib.hid (R1.out.step hb)
      replace HRF := Lib.hid (HRF.out.step hb)
      replace HXF := Lib.hid (HXF.out.step hb)
      replace HRL := Lib.hid (HRL.out.step hb)
      replace HXL := Lib.hid (HXL.out.step hb)
      replace HRT := Lib.hid (HRT.out.step hb)
      replace HXT := Lib.hid (HXT.out.step hb)
      replace HI := Lib.hid (HI.out.step hb)
      replace HBW := Lib.hid (chain HBW.out hb)
      clear hb
      have aF0 := HXF.out.c0
      have aF1 := HXF.out.c1
      have aFl := HXF.out.lt
      have aL0 := HXL.out.c0
      have aL1 := HXL.out.c1
      have aLl := HXL.out.lt
      have aT0 := HXT.out.c0
      have aT1 := HXT.out.c1
      have aTl := HXT.out.lt
      go_wp2_with fail
      refine (dualG fa fz fc wg m1 m7 HOF.out HRF.out).mono ?_
      rintro e w10 ⟨⟨da, dz, dc, rfl, hok, ht, hr⟩, hb⟩
      clear aF0 aF1 aFl aL0 aL1 aLl aT0 aT1 aTl
      replace R0 := Lib.hid (R0.out.step hb)
      replace R1 := Lib.hid (R1.out.step hb)
      replace HRF := Lib.hid (HRF.out.step hb)
      replace HXF := Lib.hid (HXF.out.step hb)
      replace HRL := Lib.hid (HRL.out.step hb)
      replace HXL := Lib.hid (HXL.out.step hb)
      replace HRT := Lib.hid (HRT.out.step hb)
      replace HXT := Lib.hid (HXT.out.step hb)
      replace HI := Lib.hid (HI.out.step hb)
      replace HBW := Lib.hid (chain HBW.out hb)
      have HOD := Lib.hid hok
      have HTD := Lib.hid ht
      have HRD := Lib.hid hr
      clear hb hok ht hr
      have hba := al_b w10 (.cells #[.int .i64 (m : Nat), .slice da dz.length dc] 26)
      have hx : Boxes (w10.alloc (.cells #[.int .i64 (m : Nat), .slice da dz.length dc] 26)) w10.heap.size 26 #[.int .i64 (m : Nat), .slice da dz.length dc] := World.alloc_heap_new _ _
      have aF0 := HXF.out.c0
      have aF1 := HXF.out.c1
      have aFl := HXF.out.lt
      have aL0 := HXL.out.c0
      have aL1 := HXL.out.c1
      have aLl := HXL.out.lt
      have aT0 := HXT.out.c0
      have aT1 := HXT.out.c1
      have aTl := HXT.out.lt
      go_wp2_with fail
      clear aF0 aF1 aFl aL0 aL1 aLl aT0 aT1 aTl
      replace R0 := Lib.hid (R0.out.step hba)
      replace R1 := Lib.hid (R1.out.step hba)
      replace HRF := Lib.hid (HRF.out.step hba)
      replace HXF := Lib.hid (HXF.out.step hba)
      replace HRL := Lib.hid (HRL.out.step hba)
      replace HXL := Lib.hid (HXL.out.step hba)
      replace HRT := Lib.hid (HRT.out.step hba)
      replace HXT := Lib.hid (HXT.out.step hba)
      replace HI := Lib.hid (HI.out.step hba)
      replace HRD := Lib.hid (HRD.out.step hba)
      replace HBW := Lib.hid (chain HBW.out hba)
      have HXD := Lib.hid hx
      clear hba hx
      generalize w10.alloc (.cells #[.int .i64 (m : Nat), .slice da dz.length dc] 26) = w11 at *
      generalize w10.heap.size = Do at *
      have aF0 := HXF.out.c0
      have aF1 := HXF.out.c1
      have aFl := HXF.out.lt
      have aL0 := HXL.out.c0
      have aL1 := HXL.out.c1
      have aLl := HXL.out.lt
      have aT0 := HXT.out.c0
      have aT1 := HXT.out.c1
      have aTl := HXT.out.lt
      have aD0 := HXD.out.c0
      have aD1 := HXD.out.c1
      have aDl := HXD.out.lt
      refine (dualG la lz lc w11 n1 n7 HOL.out HRL.out).mono ?_
      rintro e w12 ⟨⟨ua, uz, uc, rfl, hok, ht, hr⟩, hb⟩
      clear aF0 aF1 aFl aL0 aL1 aLl aT0 aT1 aTl aD0 aD1 aDl
      replace R0 := Lib.hid (R0.out.step hb)
      replace R1 := Lib.hid (R1.out.step hb)
      replace HRF := Lib.hid (HRF.out.step hb)
      replace HXF := Lib.hid (HXF.out.step hb)
      replace HRL := Lib.hid (HRL.out.step hb)
      replace HXL := Lib.hid (HXL.out.step hb)
      replace HRT := Lib.hid (HRT.out.step hb)
      replace HXT := Lib.hid (HXT.out.step hb)
      replace HI := Lib.hid (HI.out.step hb)
      replace HRD := Lib.hid (HRD.out.step hb)
      replace HXD := Lib.hid (HXD.out.step hb)
      replace HBW := Lib.hid (chain HBW.out hb)
      have HOU := Lib.hid hok
      have HTU := Lib.hid ht
      have HRU := Lib.hid hr
      clear hb hok ht hr
      have hba := al_b w12 (.cells #[.int .i64 (n : Nat), .slice ua uz.length uc] 26)
      have hx : Boxes (w12.alloc (.cells #[.int .i64 (n : Nat), .slice ua uz.length uc] 26)) w12.heap.size 26 #[.int .i64 (n : Nat), .slice ua uz.length uc] := World.alloc_heap_new _ _
      have aF0 := HXF.out.c0
      have aF1 := HXF.out.c1
      have aFl := HXF.out.lt
      have aL0 := HXL.out.c0
      have aL1 := HXL.out.c1
      have aLl := HXL.out.lt
      have aT0 := HXT.out.c0
      have aT1 := HXT.out.c1
      have aTl := HXT.out.lt
      have aD0 := HXD.out.c0
      have aD1 := HXD.out.c1
      have aDl := HXD.out.lt
      go_wp2_with fail
      clear aF0 aF1 aFl aL0 aL1 aLl aT0 aT1 aTl aD0 aD1 aDl
      replace R0 := Lib.hid (R0.out.step hba)
      replace R1 := Lib.hid (R1.out.step hba)
      replace HRF := Lib.hid (HRF.out.step hba)
      replace HXF := Lib.hid (HXF.out.step hba)
      replace HRL := Lib.hid (HRL.out.step hba)
      replace HXL := Lib.hid (HXL.out.step hba)
      replace HRT := Lib.hid (HRT.out.step hba)
      replace HXT := Lib.hid (HXT.out.step hba)
      replace HI := Lib.hid (HI.out.step hba)
      replace HRD := Lib.hid (HRD.out.step hba)
      replace HXD := Lib.hid (HXD.out.step hba)
      replace HRU := Lib.hid (HRU.out.step hba)
      replace HBW := Lib.hid (chain HBW.out hba)
      have HXU := Lib.hid hx
      clear hba hx
      generalize w12.alloc (.cells #[.int .i64 (n : Nat), .slice ua uz.length uc] 26) = w13 at *
      generalize w12.heap.size = Uo at *
      have aF0 := HXF.out.c0
      have aF1 := HXF.out.c1
      have aFl := HXF.out.lt
      have aL0 := HXL.out.c0
      have aL1 := HXL.out.c1
      have aLl := HXL.out.lt
      have aT0 := HXT.out.c0
      have aT1 := HXT.out.c1
      have aTl := HXT.out.lt
      have aD0 := HXD.out.c0
      have aD1 := HXD.out.c1
      have aDl := HXD.out.lt
      have aU0 := HXU.out.c0
      have aU1 := HXU.out.c1
      have aUl := HXU.out.lt
      refine (trustG da dz dc w13 HM.out n1 n6 jn HOD.out HRD.out).mono ?_
      rintro e w14 ⟨⟨oa, oz, oc, rfl, hok, ht, hr⟩, hb⟩
      clear aF0 aF1 aFl aL0 aL1 aLl aT0 aT1 aTl aD0 aD1 aDl aU0 aU1 aUl
      replace R0 := Lib.hid (R0.out.step hb)
      replace R1 := Lib.hid (R1.out.step hb)
      replace HRF := Lib.hid (HRF.out.step hb)
      replace HXF := Lib.hid (HXF.out.step hb)
      replace HRL := Lib.hid (HRL.out.step hb)
      replace HXL := Lib.hid (HXL.out.step hb)
      replace HRT := Lib.hid (HRT.out.step hb)
      replace HXT := Lib.hid (HXT.out.step hb)
      replace HI := Lib.hid (HI.out.step hb)
      replace HRD := Lib.hid (HRD.out.step hb)
      replace HXD := Lib.hid (HXD.out.step hb)
      replace HRU := Lib.hid (HRU.out.step hb)
      replace HXU := Lib.hid (HXU.out.step hb)
      replace HBW := Lib.hid (chain HBW.out hb)
      have HOO := Lib.hid hok
      have HTO := Lib.hid ht
      have HRO := Lib.hid hr
      clear hb hok ht hr
      have hba := al_b w14 (.cells #[.int .i64 (n : Nat), .slice oa oz.length oc] 26)
      have hx : Boxes (w14.alloc (.cells #[.int .i64 (n : Nat), .slice oa oz.length oc] 26)) w14.heap.size 26 #[.int .i64 (n : Nat), .slice oa oz.length oc] := World.alloc_heap_new _ _
      have aF0 := HXF.out.c0
      have aF1 := HXF.out.c1
      have aFl := HXF.out.lt
      have aL0 := HXL.out.c0
      have aL1 := HXL.out.c1
      have aLl := HXL.out.lt
      have aT0 := HXT.out.c0
      have aT1 := HXT.out.c1
      have aTl := HXT.out.lt
      have aD0 := HXD.out.c0
      have aD1 := HXD.out.c1
      have aDl := HXD.out.lt
      have aU0 := HXU.out.c0
      have aU1 := HXU.out.c1
      have aUl := HXU.out.lt
      go_wp2_with fail
      clear aF0 aF1 aFl aL0 aL1 aLl aT0 aT1 aTl aD0 aD1 aDl aU0 aU1 aUl
      replace R0 := Lib.hid (R0.out.step hba)
      replace R1 := Lib.hid (R1.out.step hba)
      replace HRF := Lib.hid (HRF.out.step hba)
      replace HXF := Lib.hid (HXF.out.step hba)
      replace HRL := Lib.hid (HRL.out.step hba)
      replace HXL := Lib.hid (HXL.out.step hba)
      replace HRT := Lib.hid (HRT.out.step hba)
      replace HXT := Lib.hid (HXT.out.step hba)
      replace HI := Lib.hid (HI.out.step hba)
      replace HRD := Lib.hid (HRD.out.step hba)
      replace HXD := Lib.hid (HXD.out.step hba)
      replace HRU := Lib.hid (HRU.out.step hba)
      replace HXU := Lib.hid (HXU.out.step hba)
      replace HRO := Lib.hid (HRO.out.step hba)
      replace HBW := Lib.hid (chain HBW.out hba)
      have HXO := Lib.hid hx
      clear hba hx
      generalize w14.alloc (.cells #[.int .i64 (n : Nat), .slice oa oz.length oc] 26) = w15 at *
      generalize w14.heap.size = Oo at *
      have aF0 := HXF.out.c0
      have aF1 := HXF.out.c1
      have aFl := HXF.out.lt
      have aL0 := HXL.out.c0
      have aL1 := HXL.out.c1
      have aLl := HXL.out.lt
      have aT0 := HXT.out.c0
      have aT1 := HXT.out.c1
      have aTl := HXT.out.lt
      have aD0 := HXD.out.c0
      have aD1 := HXD.out.c1
      have aDl := HXD.out.lt
      have aU0 := HXU.out.c0
      have aU1 := HXU.out.c1
      have aUl := HXU.out.lt
      have aO0 := HXO.out.c0
      have aO1 := HXO.out.c1
      have aOl := HXO.out.lt
      have HE2 := Lib.hid (show uz = oz from fam_ext n7 HOU.out HOO.out fun y hy => by
        have hm9 := HM.out
        have h64 := pow_64 n6
        have h1 := off_wide n (by omega) j (by omega) jn y (by omega) hy
        have h2 : minN false j (2 ^ n - 1 - y) < 2 ^ (n + 1) := minN_lt false (by omega) (by omega) (by simp; omega)
        have h3 : minN true j y < 2 ^ m := minN_lt true m7 hjm (by rw [hm9]; simpa using hy)
        rw [HTU.out y hy, HTO.out y hy]
        unfold dualB minB
        rw [HTL.out _ (by omega), HTD.out _ h3]
        unfold dualB minB
        rw [hm9, show 2 ^ (n + 1) - 1 - minN true j y = minN false j (2 ^ n - 1 - y) by omega])
      refine (sameG ua oa uz oz uc oc w15 n7 HOU.out HOO.out HRU.out HRO.out HE2.out).mono ?_
      rintro e w16 ⟨rfl, hb⟩
      clear aF0 aF1 aFl aL0 aL1 aLl aT0 aT1 aTl aD0 aD1 aDl aU0 aU1 aUl aO0 aO1 aOl
      replace R0 := Lib.hid (R0.out.step hb)
      replace R1 := Lib.hid (R1.out.step hb)
      replace HRF := Lib.hid (HRF.out.step hb)
      replace HXF := Lib.hid (HXF.out.step hb)
      replace HRL := Lib.hid (HRL.out.step hb)
      replace HXL := Lib.hid (HXL.out.step hb)
      replace HRT := Lib.hid (HRT.out.step hb)
      replace HXT := Lib.hid (HXT.out.step hb)
      replace HI := Lib.hid (HI.out.step hb)
      replace HRD := Lib.hid (HRD.out.step hb)
      replace HXD := Lib.hid (HXD.out.step hb)
      replace HRU := Lib.hid (HRU.out.step hb)
      replace HXU := Lib.hid (HXU.out.step hb)
      replace HRO := Lib.hid (HRO.out.step hb)
      replace HXO := Lib.hid (HXO.out.step hb)
      replace HBW := Lib.hid (chain HBW.out hb)
      clear hb
      have aF0 := HXF.out.c0
      have aF1 := HXF.out.c1
      have aFl := HXF.out.lt
      have aL0 := HXL.out.c0
      have aL1 := HXL.out.c1
      have aLl := HXL.out.lt
      have aT0 := HXT.out.c0
      have aT1 := HXT.out.c1
      have aTl := HXT.out.lt
      have aD0 := HXD.out.c0
      have aD1 := HXD.out.c1
      have aDl := HXD.out.lt
      have aU0 := HXU.out.c0
      have aU1 := HXU.out.c1
      have aUl := HXU.out.lt
      have aO0 := HXO.out.c0
      have aO1 := HXO.out.c1
      have aOl := HXO.out.lt
      go_wp2_with fail
      go_ret
      exact ⟨rfl, HBW.out⟩))

end Minors
end Go.Proofs.YteifllengcacbaaDoor

namespace Go.Proofs.YteifllengcacbaaDoor
open Go.ChangeShapes Go.WideShapes Go.ChangeAt Go.RowKit Go.Deep
set_option linter.unusedVariables false
namespace Minors


theorem door_met (os : Os) (args : Array Value) : laidMetH Tryd.prog Rows.fnMinorsRow.laid ((World.doorLaid Tryd.prog 62 os).forCall (fun _ _ => 0) ⟨#[], args, []⟩).memory :=
  laidMetH_of_parts3 (fuel := 8) (laidMet_of_run' 8 (by kernel_rfl) (by kernel_rfl)) (by kernel_rfl) (by kernel_rfl)

set_option maxRecDepth 100000 in
set_option maxHeartbeats 100000000 in
theorem lifted (os : Os) (started : os.Started) (H : Type) (enc : TypeId × Value → H) :
    ReturnsInHanded {} Tryd.checked os 6 .any (fun w args => (Rows.fnMinorsSpec.pre enc Tryd.prog Tryd.f6 [] false w args ∧ laidMetH Tryd.prog Rows.fnMinorsRow.laid w) ∧ sizedMet enc Tryd.prog Tryd.f6 (OpenSpec.ofChange Rows.fnMinorsSpec) false w args)
      (Rows.fnMinorsSpec.post enc Tryd.prog Tryd.f6 false true false false) := by
  refine returnsInHanded_of_change_and (C := Tryd.checked) (X := fun w _ => laidMetH Tryd.prog Rows.fnMinorsRow.laid w) (fun _ _ _ hh h => h.of_heap hh) CardP.own started (by kernel_rfl) Tryd.func6
    (ChangeSpec.witness_shaped (enc := enc) (C := Tryd.checked) (os := os) (X := fun w _ => laidMetH Tryd.prog Rows.fnMinorsRow.laid w) false (World.doorLaid Tryd.prog 62 os) #[.slice none 0 0, .slice none 0 0] 8 rfl (World.shaped_of_RefB (by kernel_rfl) (by kernel_rfl)) (by kernel_rfl) (by kernel_rfl) (by kernel_rfl) (door_met os _)) ?_
  intro W base args ds gs before hval0 hW _ _ hL _
  have hval : ∀ (j : Nat) t v, Tryd.f6.params[j]? = some t → args[j]? = some v → Value.okWide Tryd.prog W .any base t v := hval0
  have hW' := hW
  obtain ⟨p, q, hA0, hV, rfl, hfz, hnd⟩ := hW
  have hA : DataW.TrodAll enc Tryd.prog W 0 (fun _ => true) true Tryd.f6.params.toList args.toList ds p := hA0
  rw [Tryd.params6] at hA hval
  obtain ⟨v0, vs0, d0, ds0, p0, q0, hargs, rfl, rfl, h0, r0⟩ := trodAll_cons hA
  obtain ⟨v1, vs1, d1, ds1, p1, q1, rfl, rfl, rfl, h1, r1⟩ := trodAll_cons r0
  obtain ⟨rfl, rfl, rfl⟩ := trodAll_nil r1
  obtain rfl : args = #[v0, v1] := by cases args; simp_all
  obtain ⟨rfl, rfl⟩ := trodVars_none hV
  have k0 := h0
  have lt0 : ∀ x ∈ p0, x.block < W.heap.size := by obtain ⟨m, hm⟩ := k0; exact DataW.trod_lt m _ _ _ hm
  obtain ⟨a0, len0, c0, rfl⟩ := okWide_slice Tryd.underlying22 (hval 0 22 v0 rfl rfl)
  obtain ⟨fuel0, hf0⟩ := h0
  obtain ⟨z0, rfl, rr0, ll0⟩ := open_bytes1 (by simpa [Value.cells] using hf0)
  have k1 := h1
  have lt1 : ∀ x ∈ p1, x.block < W.heap.size := by obtain ⟨m, hm⟩ := k1; exact DataW.trod_lt m _ _ _ hm
  obtain ⟨a1, len1, c1, rfl⟩ := okWide_slice Tryd.underlying22 (hval 1 22 v1 rfl rfl)
  obtain ⟨fuel1, hf1⟩ := h1
  obtain ⟨z1, rfl, rr1, ll1⟩ := open_bytes1 (by simpa [Value.cells] using hf1)
  clear hA0 hval0
  refine (law a0 z0 c0 a1 z1 c1 W rr0 ll0 rr1 ll1).mono fun e W' ⟨he, bel⟩ => ?_
  subst he
  exact ⟨_, rfl, _, _, _, [], _, [], hW', trodAll_mk1 (shut_bool Tryd.underlying4 _), (trodAll_cons_mk (Below.trod CardP.laidOut (by kernel_rfl) (of_decide_eq_true (by kernel_rfl)) k0 bel lt0) (trodAll_cons_mk (Below.trod CardP.laidOut (by kernel_rfl) (of_decide_eq_true (by kernel_rfl)) k1 bel lt1) trodAll_mk0)), rfl, bel.frame _, fun h => by cases h⟩


end Minors
end Go.Proofs.YteifllengcacbaaDoor

namespace Go.Proofs.YteifllengcacbaaDoor
open Go.ChangeShapes Go.WideShapes Go.ChangeAt Go.RowKit Go.Deep
set_option linter.unusedVariables false
namespace Minors

theorem over : Rows.fnMinorsRow.holds Tryd.pinned (OpenSpec.ofChange Rows.fnMinorsSpec) :=
  OpenClaim.holds_of_wide 6 Tryd.f6 rfl rfl rfl rfl rfl rfl rfl ⟨rfl, rfl, rfl, rfl, rfl⟩ rfl rfl rfl rfl rfl (by kernel_rfl) Tryd.func6 closed
    (of_decide_eq_true (by kernel_rfl)) (by unfold Func.isWrapper; first | (rw [if_pos (by decide +kernel)]; kernel_rfl) | (rw [if_neg (by decide +kernel)]; exact ⟨rfl, rfl⟩))
    (fun os started H enc _ => lifted os started H enc)

theorem said : Rows.FnMinorsSaid := over

end Minors
end Go.Proofs.YteifllengcacbaaDoor

namespace Go.Proofs.YteifllengcacbaaDoor
open Go.ChangeShapes Go.WideShapes Go.ChangeAt Go.RowKit Go.Deep
set_option linter.unusedVariables false
namespace Minors

theorem plain (f : FuncId) (fn : Func) (hf : Tryd.pinned.checked.prog.funcNamed "loop.example/g01117/laws.FnMinors" = some f) (hfn : Tryd.pinned.checked.prog.funcs[f]? = some fn) :
    false = Tryd.pinned.checked.prog.looks [] ∧ ∀ (j : Nat) t, fn.params[j]? = some t → Tryd.pinned.checked.prog.wantsStandIn t = false := by
  obtain rfl : f = 6 := Option.some.inj (c_named.symm.trans hf) |>.symm
  obtain rfl : fn = Tryd.f6 := (Option.some.inj (Tryd.func6.symm.trans hfn)).symm
  refine ⟨CardP.looks, fun j t ht => ?_⟩
  rw [Tryd.params6] at ht
  have hm : t ∈ [22, 22] := by simpa using Array.mem_of_getElem? ht
  have hall := c_stand
  exact (show Tryd.prog.wantsStandIn t = false by simpa using List.all_eq_true.1 hall t hm)

theorem card : Rows.FnMinorsCardSaid :=
  Claim7.holds_tied_plain_at .later [] _ _ _ _ said (fun _ h => by cases h) c_wf (fun _ h => by cases h) fnMinors_row_tie rfl ⟨rfl, rfl⟩ c_main rfl plain c_goes

end Minors
end Go.Proofs.YteifllengcacbaaDoor

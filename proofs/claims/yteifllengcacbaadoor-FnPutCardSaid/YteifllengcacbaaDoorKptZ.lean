/- 'laws.FnPut': for all arguments the program's function gives what the model gives, and writes into nothing that it was given. Tied to the program's text: what the library's tables hold. No other condition. -/
import Derived.Test.YteifllengcacbaaDoorRows
import Derived.JoinedOf
import Derived.SevenTiedAt
import Derived.Test.YteifllengcacbaaDoorCards
import Derived.Test.YteifllengcacbaaDoorMinI
import Derived.Test.YteifllengcacbaaDoorFgZ
import Derived.Test.YteifllengcacbaaDoorMin
import Derived.Test.YteifllengcacbaaDoorPui
import Derived.Deep.RegionHeld3
import Derived.BigQuiet
import Derived.Test.YteifllengcacbaaDoorOpen
import Derived.LaidHandle
import Derived.LaidLaws
import Derived.LaidMore
import Derived.Test.YteifllengcacbaaDoorTie
namespace Go.Proofs.YteifllengcacbaaDoor
namespace CardP
set_option maxRecDepth 1000000
set_option maxHeartbeats 100000000
theorem own : ownKnob Tryd.prog.godebug = none := by kernel_rfl
theorem laidOut : laidOutB Tryd.prog = true := by kernel_rfl
theorem rowed : mapsRowed Tryd.prog = true := by kernel_rfl
theorem heard : Tryd.prog.stopsHeard = true := by kernel_rfl
theorem enter : Tryd.prog.mayEnter = true := by kernel_rfl
theorem looks : false = Tryd.prog.looks [] := by kernel_rfl
end CardP
end Go.Proofs.YteifllengcacbaaDoor

namespace Go.Proofs.YteifllengcacbaaDoor
namespace PutL
set_option maxRecDepth 1000000 in
set_option maxHeartbeats 100000000 in
theorem closed : joinedFacts Tryd.pinned.checked.prog 8 Tryd.f8 Rows.fnPutSpec Rows.fnPutRow = true := by
  rw [joinedFacts]
  simp only [Bool.and_eq_true]
  repeat' apply And.intro
  · as_aux_lemma => kernel_rfl
  · exact CardP.laidOut
  · exact CardP.rowed
  · as_aux_lemma => kernel_rfl
  · as_aux_lemma => kernel_rfl
  · as_aux_lemma => kernel_rfl
  · as_aux_lemma => kernel_rfl
  · as_aux_lemma => kernel_rfl
  · as_aux_lemma => kernel_rfl
  · as_aux_lemma => kernel_rfl
  · as_aux_lemma => kernel_rfl
  · as_aux_lemma => kernel_rfl
  · as_aux_lemma => kernel_rfl
  · as_aux_lemma => kernel_rfl
  · as_aux_lemma => kernel_rfl
  · as_aux_lemma => kernel_rfl
  · as_aux_lemma => kernel_rfl
  · as_aux_lemma => kernel_rfl
  · as_aux_lemma => kernel_rfl
  · as_aux_lemma => kernel_rfl
  · as_aux_lemma => kernel_rfl
  · as_aux_lemma => kernel_rfl
  · as_aux_lemma => kernel_rfl
  · as_aux_lemma => kernel_rfl
  · exact CardP.heard
  · exact CardP.enter
  · as_aux_lemma => kernel_rfl
  · as_aux_lemma => kernel_rfl
  · as_aux_lemma => kernel_rfl
  · as_aux_lemma => kernel_rfl
  · as_aux_lemma => kernel_rfl
  · as_aux_lemma => kernel_rfl
end PutL
end Go.Proofs.YteifllengcacbaaDoor

namespace Go.Proofs.YteifllengcacbaaDoor
namespace PutL
set_option maxRecDepth 1000000
set_option maxHeartbeats 100000000
theorem c_named : Tryd.prog.funcNamed "loop.example/g01117/laws.FnPut" = some 8 := by kernel_rfl
theorem c_stand : ([22, 22].all fun u => !Tryd.prog.wantsStandIn u) = true := by kernel_rfl
theorem c_wf : Rows.fnPutRow.wfByText (OpenSpec.ofChange Rows.fnPutSpec) = true := by kernel_rfl
theorem c_main : Tryd.pinned.checked.prog.mainIs = some (true, "6e409f8567a90cbadb9cb177e9d24eb4bf8a9e643d41676aabbeec681e6929fc".toList) := by kernel_rfl
theorem c_goes : false = Rows.fnPutRow.goesBy Tryd.pinned.checked.prog := by kernel_rfl
end PutL
end Go.Proofs.YteifllengcacbaaDoor

namespace Go.Proofs.YteifllengcacbaaDoor
open Go.RowKit Go.Deep Go.Shelf
set_option linter.unusedVariables false

set_option maxRecDepth 100000 in
theorem Wo_chooses (B C T m j : Nat) (q : Nat → Bool) (w : World) (hB : w.cell? ⟨B, 0, none⟩ = some (.pointer (some ⟨T, 0, none⟩))) (hC : w.cell? ⟨C, 0, none⟩ = some (.int .i64 (j : Nat))) (ht : TableAt w T m q) (m7 : m ≤ 7) (hj : j < m) :
    ChoosesC w 58 #[] #[.pointer (some ⟨B, 0, none⟩), .pointer (some ⟨C, 0, none⟩)] (m - 1) (fun x => q (minN false j x)) := by
  refine ⟨enters_of Tryd.func58 (by kernel_rfl) rfl, fun x W hxh hb => ?_⟩
  have hBW := cell_step hb hB
  have hCW := cell_step hb hC
  have HT := Lib.hid (ht.below hb (World.block_lt_of_cell? _ _ ht.h0))
  have hx64 : x.val < 64 := Nat.lt_of_lt_of_le hxh (Nat.pow_le_pow_right (by decide) (by omega : m - 1 ≤ 6))
  have hj7 : j < 7 := by omega
  have h128 := wide_128 j hj7 x.val hx64
  have hy128 : minN false j x.val < 128 := Nat.lt_of_lt_of_le (minN_lt false m7 hj hxh) (Nat.pow_le_pow_right (by decide) m7 : 2 ^ m ≤ 2 ^ 7)
  clear hb hB hC ht
  show Calls Tryd.prog 58 #[.int .u64 (x.val : Int), .pointer (some ⟨B, 0, none⟩), .pointer (some ⟨C, 0, none⟩)] W _
  generalize x.val = y at *
  go_enter Tryd.func58, Tryd.ntmps58
  go_wp2
  go_quiet (first | (go_at_call 59; exact Calls.quiet_of_same (swapped (room_any y j _ hx64 hj7))) | (go_at_call 47; exact Calls.quiet_of_same (swapped (opens_any T m (minN false j y) q _ hy128 (HT.out.step (quiet_below ⟨_, rfl⟩))))))
  go_wp2
  go_ret
  exact ⟨rfl, quiet_below ⟨_, rfl⟩⟩

set_option maxHeartbeats 1000000 in
set_option maxRecDepth 100000 in
theorem implWo_any (h : Int) (a : Option Addr) (zss : List (List Int)) (c : Nat) (k : Int) (w : World) (hr : Rows2 w a zss) (hl : Small2 zss) (wf : (Lit.int .i64 k).wf = true) : Calls Tryd.prog 27 #[.agg #[.int .i64 h, .slice a zss.length c], .int .i64 k] w (GivesFO w (minOf false h zss k)) := by
  have hB0 := (Below.refl w.heap.size w).alloc (Nat.le_refl _) (.cells #[.int .i64 h, .slice a zss.length c] 26)
  have hB1 := hB0.alloc (by simp) (.cells #[.int .i64 k] 2)
  have hB2 := hB1.alloc (by simp; omega) (.cells #[.int .i64 0, .slice none 0 0] 26)
  have d0 : (((w.alloc (.cells #[.int .i64 h, .slice a zss.length c] 26)).alloc (.cells #[.int .i64 k] 2)).alloc (.cells #[.int .i64 0, .slice none 0 0] 26)).cell? ⟨w.heap.size, 0, none⟩ = some (.int .i64 h) := by simp [go_sem]
  have d1 : (((w.alloc (.cells #[.int .i64 h, .slice a zss.length c] 26)).alloc (.cells #[.int .i64 k] 2)).alloc (.cells #[.int .i64 0, .slice none 0 0] 26)).cell? ⟨w.heap.size + 1, 0, none⟩ = some (.int .i64 k) := by simp [go_sem]
  have hF0 : Boxes1 (((w.alloc (.cells #[.int .i64 h, .slice a zss.length c] 26)).alloc (.cells #[.int .i64 k] 2)).alloc (.cells #[.int .i64 0, .slice none 0 0] 26)) (w.heap.size + 1 + 1) := by
    have := World.alloc_heap_new ((w.alloc (.cells #[.int .i64 h, .slice a zss.length c] 26)).alloc (.cells #[.int .i64 k] 2)) (.cells #[.int .i64 0, .slice none 0 0] 26)
    simpa [Boxes1] using this
  have HA := Lib.hid (hr.step hB2)
  have HL := Lib.hid hl
  have HB := Lib.hid hB2
  have HF := Lib.hid hF0
  have hlt := hF0.lt
  clear hr hl hB0 hB1 hB2 hF0
  go_enter Tryd.func27, Tryd.ntmps27
  go_wp2_with fail
  generalize ((w.alloc (.cells #[.int .i64 h, .slice a zss.length c] 26)).alloc (.cells #[.int .i64 k] 2)).alloc (.cells #[.int .i64 0, .slice none 0 0] 26) = w1 at *
  refine (leave_any h a zss c k w1 HA.out HL.out).mono ?_
  rintro e w2 ⟨hcase, hb⟩
  have e0 := (hb.cell (p := ⟨w.heap.size, 0, none⟩) (by show w.heap.size < w1.heap.size; omega)).trans d0
  have e1 := (hb.cell (p := ⟨w.heap.size + 1, 0, none⟩) (by show w.heap.size + 1 < w1.heap.size; omega)).trans d1
  have HF2 := Lib.hid (HF.out.step hb)
  have HB2 := Lib.hid (chain HB.out hb)
  have hs2 := hb.size
  clear hb d0 d1
  rcases hcase with ⟨T, hfo, hk, h1, rfl, htab⟩ | ⟨code, hcode, hmin, rfl⟩
  · have hh1 : 1 ≤ h := hfo.1.1
    have hh7 : h ≤ 7 := hfo.1.2
    obtain ⟨m, rfl⟩ : ∃ m : Nat, h = (m : Int) := ⟨h.toNat, by omega⟩
    obtain ⟨j, rfl⟩ : ∃ j : Nat, k = (j : Int) := ⟨k.toNat, by omega⟩
    have hjm : j < m := by omega
    have m7 : m ≤ 7 := by omega
    obtain ⟨m', hm'⟩ : ∃ m' : Nat, (m : Int) - 1 = (m' : Int) := ⟨m - 1, by omega⟩
    have hmm : m' = m - 1 := by omega
    have hm1 : 1 ≤ m' := by omega
    have hm7 : m' ≤ 7 := by omega
    have HMM := Lib.hid hmm
    have HV := Lib.hid (min_in (tr := false) (zss := zss) hfo hjm (by omega))
    have HQ := Lib.hid (show famOf m' (fun x => tabOf (m : Int) zss (minN false j x)) = famOf m' (minB false j zss) from famOf_congr hm7 fun y hy => by
      show tabOf (m : Int) zss (minN false j y) = tblAt zss zss.length (minN false j y)
      unfold tabOf
      rw [Int.toNat_natCast]
      exact seenBy_all m7 _ (minN_lt false m7 hjm (by rw [← hmm]; exact hy)))
    rw [Int.toNat_natCast] at htab
    have hbT := (Below.refl w2.heap.size w2).alloc (Nat.le_refl _) (.cells #[.pointer (some ⟨T, 0, none⟩)] 57)
    have HTA := Lib.hid (htab.step hbT)
    have HF3 := Lib.hid (HF2.out.step hbT)
    have HB3 := Lib.hid (chain HB2.out hbT)
    have a0 := cell_step hbT e0
    have a1 := cell_step hbT e1
    have aT : (w2.alloc (.cells #[.pointer (some ⟨T, 0, none⟩)] 57)).cell? ⟨w2.heap.size, 0, none⟩ = some (.pointer (some ⟨T, 0, none⟩)) := by simp
    clear hfo hk htab hbT hmm
    go_wp2_with fail
    generalize w2.alloc (.cells #[.pointer (some ⟨T, 0, none⟩)] 57) = w3 at *
    refine (familyWhereC_any m' _ #[] #[.pointer (some ⟨w2.heap.size, 0, none⟩), .pointer (some ⟨w.heap.size + 1, 0, none⟩)] (fun x => tabOf (m : Int) zss (minN false j x)) w3 hm1 hm7 (by have hc := Wo_chooses w2.heap.size (w.heap.size + 1) T m j (tabOf (m : Int) zss) w3 aT a1 HTA.out m7 hjm; rw [← HMM.out] at hc; exact hc)).mono ?_
    rintro e w4 ⟨⟨v, us, rfl, hrow, hrows⟩, hb⟩
    rw [famOf_seen hm7, HQ.out] at hrow hrows
    obtain ⟨va, vc, hva⟩ := rowForm hrow
    subst hva
    have hZ3 := HF3.out.lt
    have hf' := HF3.out.step hb
    have c0 := hf'.c0
    have c1 := hf'.c1
    have f0 := hf'.f 0
    have f1 := hf'.f 1
    have HR := Lib.hid hrow
    have HRS := Lib.hid hrows
    have HB4 := Lib.hid (chain HB3.out hb)
    have hle : w.heap.size ≤ w3.heap.size := HB3.out.size
    clear hrow hrows hb hf' e0 e1 a0 a1 aT
    have hV2 : minOf false (m : Int) zss (j : Int) = ⟨(m' : Nat), famOf m' (minB false j zss), 0⟩ := by rw [HV.out, hm', HMM.out]
    have HV2 := Lib.hid hV2
    clear hV2
    generalize famOf m' (minB false j zss) = Z at *
    go_wp2_with fail
    refine bodyPost_ret (v := .tuple #[.agg #[.int .i64 (m' : Nat), .slice va Z.length vc], .int .i64 0]) (by simp [results, Tryd.results27, go_sem, c0, c1]) rfl ?_
    rw [HV2.out]
    exact ⟨⟨_, us, rfl, ownsRow_mono (row_set (row_set HR.out hZ3 _) hZ3 _) hle, (HRS.out.map fun u zs hu => row_set (row_set hu hZ3 _) hZ3 _).mono hle⟩, (HB4.out.setCell (by simp <;> omega) _).setCell (by simp <;> omega) _⟩
  · have HV := Lib.hid (hmin false)
    have hbT := (Below.refl w2.heap.size w2).alloc (Nat.le_refl _) (.cells #[.pointer none] 57)
    have hf' := HF2.out.step hbT
    have c0 := hf'.c0
    have c1 := hf'.c1
    have f0 := hf'.f 0
    have f1 := hf'.f 1
    have HB3 := Lib.hid (chain HB2.out hbT)
    clear hmin hbT hf' e0 e1
    rcases hcode with rfl | rfl | rfl
    all_goals
      go_wp2_with fail
      generalize w2.alloc (.cells #[.pointer none] 57) = w3 at *
      refine bodyPost_ret (v := .tuple #[.agg #[.int .i64 0, .slice none 0 0], .int .i64 _]) (by simp [results, Tryd.results27, go_sem, c0, c1]; rfl) rfl ?_
      rw [HV.out]
      exact GivesFO.no _ ((HB3.out.setCell (by simp <;> omega) _).setCell (by simp <;> omega) _)

set_option maxRecDepth 100000 in
theorem Tr_chooses (B C T m j : Nat) (q : Nat → Bool) (w : World) (hB : w.cell? ⟨B, 0, none⟩ = some (.pointer (some ⟨T, 0, none⟩))) (hC : w.cell? ⟨C, 0, none⟩ = some (.int .i64 (j : Nat))) (ht : TableAt w T m q) (m7 : m ≤ 7) (hj : j < m) :
    ChoosesC w 60 #[] #[.pointer (some ⟨B, 0, none⟩), .pointer (some ⟨C, 0, none⟩)] (m - 1) (fun x => q (minN true j x)) := by
  refine ⟨enters_of Tryd.func60 (by kernel_rfl) rfl, fun x W hxh hb => ?_⟩
  have hBW := cell_step hb hB
  have hCW := cell_step hb hC
  have HT := Lib.hid (ht.below hb (World.block_lt_of_cell? _ _ ht.h0))
  have hx64 : x.val < 64 := Nat.lt_of_lt_of_le hxh (Nat.pow_le_pow_right (by decide) (by omega : m - 1 ≤ 6))
  have hj7 : j < 7 := by omega
  have h128 := wide_128 j hj7 x.val hx64
  have hy128 : minN true j x.val < 128 := Nat.lt_of_lt_of_le (minN_lt true m7 hj hxh) (Nat.pow_le_pow_right (by decide) m7 : 2 ^ m ≤ 2 ^ 7)
  clear hb hB hC ht
  show Calls Tryd.prog 60 #[.int .u64 (x.val : Int), .pointer (some ⟨B, 0, none⟩), .pointer (some ⟨C, 0, none⟩)] W _
  generalize x.val = y at *
  go_enter Tryd.func60, Tryd.ntmps60
  go_wp2
  go_quiet (first | (go_at_call 59; exact Calls.quiet_of_same (swapped (room_any y j _ hx64 hj7))) | (go_at_call 61; exact Calls.quiet_of_same (swapped (with_any (wideN j y) (j : Int) _ h128 (by omega) (by omega)))) | (go_at_call 47; exact Calls.quiet_of_same (swapped (opens_any T m (minN true j y) q _ hy128 (HT.out.step (quiet_below ⟨_, rfl⟩))))))
  go_wp2
  go_ret
  exact ⟨rfl, quiet_below ⟨_, rfl⟩⟩

set_option maxHeartbeats 1000000 in
set_option maxRecDepth 100000 in
theorem implTr_any (h : Int) (a : Option Addr) (zss : List (List Int)) (c : Nat) (k : Int) (w : World) (hr : Rows2 w a zss) (hl : Small2 zss) (wf : (Lit.int .i64 k).wf = true) : Calls Tryd.prog 28 #[.agg #[.int .i64 h, .slice a zss.length c], .int .i64 k] w (GivesFO w (minOf true h zss k)) := by
  have hB0 := (Below.refl w.heap.size w).alloc (Nat.le_refl _) (.cells #[.int .i64 h, .slice a zss.length c] 26)
  have hB1 := hB0.alloc (by simp) (.cells #[.int .i64 k] 2)
  have hB2 := hB1.alloc (by simp; omega) (.cells #[.int .i64 0, .slice none 0 0] 26)
  have d0 : (((w.alloc (.cells #[.int .i64 h, .slice a zss.length c] 26)).alloc (.cells #[.int .i64 k] 2)).alloc (.cells #[.int .i64 0, .slice none 0 0] 26)).cell? ⟨w.heap.size, 0, none⟩ = some (.int .i64 h) := by simp [go_sem]
  have d1 : (((w.alloc (.cells #[.int .i64 h, .slice a zss.length c] 26)).alloc (.cells #[.int .i64 k] 2)).alloc (.cells #[.int .i64 0, .slice none 0 0] 26)).cell? ⟨w.heap.size + 1, 0, none⟩ = some (.int .i64 k) := by simp [go_sem]
  have hF0 : Boxes1 (((w.alloc (.cells #[.int .i64 h, .slice a zss.length c] 26)).alloc (.cells #[.int .i64 k] 2)).alloc (.cells #[.int .i64 0, .slice none 0 0] 26)) (w.heap.size + 1 + 1) := by
    have := World.alloc_heap_new ((w.alloc (.cells #[.int .i64 h, .slice a zss.length c] 26)).alloc (.cells #[.int .i64 k] 2)) (.cells #[.int .i64 0, .slice none 0 0] 26)
    simpa [Boxes1] using this
  have HA := Lib.hid (hr.step hB2)
  have HL := Lib.hid hl
  have HB := Lib.hid hB2
  have HF := Lib.hid hF0
  have hlt := hF0.lt
  clear hr hl hB0 hB1 hB2 hF0
  go_enter Tryd.func28, Tryd.ntmps28
  go_wp2_with fail
  generalize ((w.alloc (.cells #[.int .i64 h, .slice a zss.length c] 26)).alloc (.cells #[.int .i64 k] 2)).alloc (.cells #[.int .i64 0, .slice none 0 0] 26) = w1 at *
  refine (leave_any h a zss c k w1 HA.out HL.out).mono ?_
  rintro e w2 ⟨hcase, hb⟩
  have e0 := (hb.cell (p := ⟨w.heap.size, 0, none⟩) (by show w.heap.size < w1.heap.size; omega)).trans d0
  have e1 := (hb.cell (p := ⟨w.heap.size + 1, 0, none⟩) (by show w.heap.size + 1 < w1.heap.size; omega)).trans d1
  have HF2 := Lib.hid (HF.out.step hb)
  have HB2 := Lib.hid (chain HB.out hb)
  have hs2 := hb.size
  clear hb d0 d1
  rcases hcase with ⟨T, hfo, hk, h1, rfl, htab⟩ | ⟨code, hcode, hmin, rfl⟩
  · have hh1 : 1 ≤ h := hfo.1.1
    have hh7 : h ≤ 7 := hfo.1.2
    obtain ⟨m, rfl⟩ : ∃ m : Nat, h = (m : Int) := ⟨h.toNat, by omega⟩
    obtain ⟨j, rfl⟩ : ∃ j : Nat, k = (j : Int) := ⟨k.toNat, by omega⟩
    have hjm : j < m := by omega
    have m7 : m ≤ 7 := by omega
    obtain ⟨m', hm'⟩ : ∃ m' : Nat, (m : Int) - 1 = (m' : Int) := ⟨m - 1, by omega⟩
    have hmm : m' = m - 1 := by omega
    have hm1 : 1 ≤ m' := by omega
    have hm7 : m' ≤ 7 := by omega
    have HMM := Lib.hid hmm
    have HV := Lib.hid (min_in (tr := true) (zss := zss) hfo hjm (by omega))
    have HQ := Lib.hid (show famOf m' (fun x => tabOf (m : Int) zss (minN true j x)) = famOf m' (minB true j zss) from famOf_congr hm7 fun y hy => by
      show tabOf (m : Int) zss (minN true j y) = tblAt zss zss.length (minN true j y)
      unfold tabOf
      rw [Int.toNat_natCast]
      exact seenBy_all m7 _ (minN_lt true m7 hjm (by rw [← hmm]; exact hy)))
    rw [Int.toNat_natCast] at htab
    have hbT := (Below.refl w2.heap.size w2).alloc (Nat.le_refl _) (.cells #[.pointer (some ⟨T, 0, none⟩)] 57)
    have HTA := Lib.hid (htab.step hbT)
    have HF3 := Lib.hid (HF2.out.step hbT)
    have HB3 := Lib.hid (chain HB2.out hbT)
    have a0 := cell_step hbT e0
    have a1 := cell_step hbT e1
    have aT : (w2.alloc (.cells #[.pointer (some ⟨T, 0, none⟩)] 57)).cell? ⟨w2.heap.size, 0, none⟩ = some (.pointer (some ⟨T, 0, none⟩)) := by simp
    clear hfo hk htab hbT hmm
    go_wp2_with fail
    generalize w2.alloc (.cells #[.pointer (some ⟨T, 0, none⟩)] 57) = w3 at *
    refine (familyWhereC_any m' _ #[] #[.pointer (some ⟨w2.heap.size, 0, none⟩), .pointer (some ⟨w.heap.size + 1, 0, none⟩)] (fun x => tabOf (m : Int) zss (minN true j x)) w3 hm1 hm7 (by have hc := Tr_chooses w2.heap.size (w.heap.size + 1) T m j (tabOf (m : Int) zss) w3 aT a1 HTA.out m7 hjm; rw [← HMM.out] at hc; exact hc)).mono ?_
    rintro e w4 ⟨⟨v, us, rfl, hrow, hrows⟩, hb⟩
    rw [famOf_seen hm7, HQ.out] at hrow hrows
    obtain ⟨va, vc, hva⟩ := rowForm hrow
    subst hva
    have hZ3 := HF3.out.lt
    have hf' := HF3.out.step hb
    have c0 := hf'.c0
    have c1 := hf'.c1
    have f0 := hf'.f 0
    have f1 := hf'.f 1
    have HR := Lib.hid hrow
    have HRS := Lib.hid hrows
    have HB4 := Lib.hid (chain HB3.out hb)
    have hle : w.heap.size ≤ w3.heap.size := HB3.out.size
    clear hrow hrows hb hf' e0 e1 a0 a1 aT
    have hV2 : minOf true (m : Int) zss (j : Int) = ⟨(m' : Nat), famOf m' (minB true j zss), 0⟩ := by rw [HV.out, hm', HMM.out]
    have HV2 := Lib.hid hV2
    clear hV2
    generalize famOf m' (minB true j zss) = Z at *
    go_wp2_with fail
    refine bodyPost_ret (v := .tuple #[.agg #[.int .i64 (m' : Nat), .slice va Z.length vc], .int .i64 0]) (by simp [results, Tryd.results28, go_sem, c0, c1]) rfl ?_
    rw [HV2.out]
    exact ⟨⟨_, us, rfl, ownsRow_mono (row_set (row_set HR.out hZ3 _) hZ3 _) hle, (HRS.out.map fun u zs hu => row_set (row_set hu hZ3 _) hZ3 _).mono hle⟩, (HB4.out.setCell (by simp <;> omega) _).setCell (by simp <;> omega) _⟩
  · have HV := Lib.hid (hmin true)
    have hbT := (Below.refl w2.heap.size w2).alloc (Nat.le_refl _) (.cells #[.pointer none] 57)
    have hf' := HF2.out.step hbT
    have c0 := hf'.c0
    have c1 := hf'.c1
    have f0 := hf'.f 0
    have f1 := hf'.f 1
    have HB3 := Lib.hid (chain HB2.out hbT)
    clear hmin hbT hf' e0 e1
    rcases hcode with rfl | rfl | rfl
    all_goals
      go_wp2_with fail
      generalize w2.alloc (.cells #[.pointer none] 57) = w3 at *
      refine bodyPost_ret (v := .tuple #[.agg #[.int .i64 0, .slice none 0 0], .int .i64 _]) (by simp [results, Tryd.results28, go_sem, c0, c1]; rfl) rfl ?_
      rw [HV.out]
      exact GivesFO.no _ ((HB3.out.setCell (by simp <;> omega) _).setCell (by simp <;> omega) _)
end Go.Proofs.YteifllengcacbaaDoor

namespace Go.Proofs.YteifllengcacbaaDoor
open Go.RowKit Go.Deep Go.Joins
set_option linter.unusedVariables false

theorem wide_fact : ∀ h : Nat, h < 7 → ∀ x : Nat, x < 64 → ∀ tr : Bool, ((listOf x).filter fun z => decide (z < (h : Int))) ++ (if tr then [(h : Int)] else []) ++ (((listOf x).filter fun z => decide ((h : Int) ≤ z)).map (· + 1)) = listOf (minN tr h x) := by decide +kernel
theorem take_low {zs : List Int} (hp : zs.Pairwise (· < ·)) {k : Nat} {h : Int} (hk : k ≤ zs.length) (h1 : ∀ j, j < k → nth zs j < h) (h2 : k = zs.length ∨ h ≤ nth zs k) : zs.take k = zs.filter fun z => decide (z < h) := by
  have e : zs.filter (fun z => decide (z < h)) = (zs.take k).filter (fun z => decide (z < h)) ++ (zs.drop k).filter (fun z => decide (z < h)) := by
    rw [← List.filter_append, List.take_append_drop]
  have e1 : (zs.take k).filter (fun z => decide (z < h)) = zs.take k := by
    rw [List.filter_eq_self]
    intro z hz
    obtain ⟨i, hi, rfl⟩ := List.mem_iff_getElem.1 hz
    have hi2 : i < k ∧ i < zs.length := by rw [List.length_take] at hi; omega
    have := h1 i hi2.1
    rw [nth_lt hi2.2] at this
    rw [List.getElem_take]
    exact decide_eq_true this
  have e2 : (zs.drop k).filter (fun z => decide (z < h)) = [] := by
    rw [List.filter_eq_nil_iff]
    intro z hz
    rcases h2 with h2 | h2
    · subst h2; simp at hz
    · obtain ⟨i, hi, rfl⟩ := List.mem_iff_getElem.1 hz
      have hlen : k + i < zs.length := by rw [List.length_drop] at hi; omega
      rw [List.getElem_drop]
      have h3 : nth zs k ≤ zs[k + i] := by
        rw [nth_lt (show k < zs.length by omega)]
        by_cases hi0 : i = 0
        · subst hi0; exact Int.le_refl _
        · exact Int.le_of_lt (List.pairwise_iff_getElem.1 hp k (k + i) (by omega) hlen (by omega))
      simp only [decide_eq_true_eq]; omega
  rw [e, e1, e2, List.append_nil]
set_option maxRecDepth 100000 in
set_option maxHeartbeats 2000000 in
theorem a2Wide_true (a : Option Addr) (x c h n : Nat) (w : World) (hr : Ints w a (listOf x)) (hx : x < 2 ^ n) (hn : n ≤ 6) (hh : h ≤ n) :
    Calls Tryd.prog 29 #[.slice a (listOf x).length c, .int .i64 (h : Nat), .bool true] w (GivesInts w (listOf (minN true h x))) := by
  obtain ⟨i0, hi, hz0, hz1, hz2⟩ := info_parts Tryd.infoInt64
  have hx64 : x < 64 := by have : (2 : Nat) ^ n ≤ 2 ^ 6 := Nat.pow_le_pow_right (by decide) hn; omega
  have HFIN := Lib.hid (show ((listOf x).filter fun z => decide (z < (h : Int))) ++ [(h : Int)] ++ (((listOf x).filter fun z => decide ((h : Int) ≤ z)).map (· + 1)) = listOf (minN true h x) from wide_fact h (by omega) x hx64 true)
  have hg := grp_list (m := n) (by omega) hx
  have hpw := grp_pairwise hg
  have HZ := Lib.hid (show ∀ k, k < (listOf x).length → 0 ≤ nth (listOf x) k ∧ nth (listOf x) k ≤ 6 from fun k hk => by
    have := grp_mem hg (nth (listOf x) k) (by rw [nth_lt hk]; exact List.getElem_mem _)
    omega)
  have hl7 : (listOf x).length ≤ 7 := listTo_len x 7
  have HR := Lib.hid hr
  have HPW := Lib.hid hpw
  clear hr hx hg hpw hx64
  generalize listOf (minN true h x) = Y at *
  generalize listOf x = zs at *
  obtain ⟨P, hP⟩ : ∃ P, P = zs.filter fun z => decide (z < (h : Int)) := ⟨_, rfl⟩
  rw [← hP] at HFIN
  have HP := Lib.hid hP
  clear hP
  go_enter Tryd.func29, Tryd.ntmps29
  go_wp2_with fail
  have hown : OwnI (w.alloc (.cells #[] 2)) w.heap.size (.slice (some ⟨w.heap.size, 0, none⟩) 0 0) [] := World.ownsRow_made w #[] 0 (Nat.le_refl _) (by unfold maxLen; omega) rfl
  have hb1 := (Below.refl w.heap.size w).alloc (Nat.le_refl _) (.cells #[] 2)
  generalize (Value.slice (some ⟨w.heap.size, 0, none⟩) 0 0) = v0 at *
  go_loopw [7, 8] (fun v i wr => ∃ k : Nat, k ≤ zs.length ∧ i = .int .i64 k ∧ OwnI wr w.heap.size v (zs.take k) ∧ Below w.heap.size w wr ∧ ∀ j, j < k → nth zs j < (h : Int))
    (fun _ i _ => zs.length - (intOf i).toNat)
  case atStart => exact ⟨0, by omega, rfl, by simpa using hown, hb1, fun j hj => absurd hj (Nat.not_lt_zero _)⟩
  case round =>
    obtain ⟨k, hk, rfl, ho, hb, hall⟩ := hrel
    have HOI1 := Lib.hid ho
    have HBI1 := Lib.hid hb
    have hsb1 := hb.size
    have HALL := Lib.hid hall
    have hrs := HR.out.step hb
    clear ho hb hall hown hb1
    by_cases hlt : k < zs.length
    · rcases hrs with h0 | ⟨b, o, rfl, hc⟩
      · rw [h0] at hlt; exact absurd hlt (Nat.not_lt_zero _)
      have hcell := hc k hlt
      have hi0 : (k : Int) < (zs.length : Int) := by omega
      have HTN := Lib.hid (show zs.take (k + 1) = zs.take k ++ [nth zs k] by rw [nth_lt hlt]; exact List.take_succ_eq_append_getElem hlt)
      have htl : (zs.take k).length ≤ 7 := by rw [List.length_take]; omega
      clear hc
      by_cases hls : nth zs k < (h : Int)
      · have HLS := Lib.hid hls
        obtain ⟨z, hz⟩ : ∃ z, nth zs k = z := ⟨_, rfl⟩
        have HZZ := Lib.hid hz
        rw [hz] at hcell hls HTN
        clear hz
        go_wp2_with (at_builtin; refine wpList_append_own _ rfl _ _ 28 rfl w.heap.size 2 i0 (.int .i64 0) 1 8 Tryd.underlying28 hi hz0 hz1 hz2 rfl (by decide) _ _ _ rfl (World.ownsRow.alloc HOI1.out _) ⟨wr.heap.size, 0, none⟩ 1 1 [.int .i64 z] rfl rfl (cell_one_new _ _ _) (by simp [Value.oneCell']) (by unfold maxLen; omega) (by omega) (by simp; omega) ?_; intro v' w5 hown hgrow _; have HOWN := Lib.hid hown; have HGROW := Lib.hid hgrow; clear hown hgrow)
        go_wp2
        go_roundw
        case rel =>
          refine ⟨k + 1, by omega, by go_num, ?_, ?_, fun j hj => ?_⟩
          · rw [HTN.out]; unfold OwnI; rw [vals_snoc, List.length_append]; exact HOWN.out
          · exact (HBI1.out.alloc hsb1 _).grown HGROW.out (by simp; omega) (fun q hq => (World.ownsRow.lt HOI1.out q hq).1)
          · by_cases e : j = k
            · subst e; exact HLS.out
            · exact HALL.out j (by omega)
        case measure => simp [intOf]; omega
      · have HPE := Lib.hid (show zs.take k = P by rw [HP.out]; exact take_low HPW.out hk HALL.out (.inr (by omega)))
        clear HTN htl
        have hpl : P.length ≤ 7 := by
          rw [← HPE.out, List.length_take]; omega
        have hop := HOI1.out
        rw [HPE.out] at hop
        have HOP := Lib.hid hop
        have HBP := Lib.hid HBI1.out
        have hsp := hsb1
        clear hop
        go_wp2_with (at_builtin; refine wpList_append_own _ rfl _ _ 28 rfl w.heap.size 2 i0 (.int .i64 0) 1 8 Tryd.underlying28 hi hz0 hz1 hz2 rfl (by decide) _ _ _ rfl (World.ownsRow.alloc HOP.out _) ⟨wr.heap.size, 0, none⟩ 1 1 [.int .i64 h] rfl rfl (cell_one_new _ _ _) (by simp [Value.oneCell']) (by unfold maxLen; omega) (by omega) (by simp; omega) ?_; intro v' w4 hown hgrow _; have HOWN := Lib.hid hown; have HGROW := Lib.hid hgrow; clear hown hgrow)
        have HOQ := Lib.hid (show OwnI w4 w.heap.size v' (P ++ [(h : Int)]) by unfold OwnI; rw [vals_snoc, List.length_append]; exact HOWN.out)
        have HBQ := Lib.hid (show Below w.heap.size w w4 from (HBP.out.alloc hsp _).grown HGROW.out (by simp; omega) (fun q hq => (World.ownsRow.lt HOP.out q hq).1))
        clear HOWN HGROW
        have hql : (P ++ [(h : Int)]).length ≤ 8 := by simp; omega

        generalize hQQ : P ++ [(h : Int)] = Q at *
        clear hQQ
        go_loopw [7, 9] (fun v i wi => ∃ k, k ≤ zs.length ∧ i = .int .i64 (k : Nat) ∧ OwnI wi w.heap.size v (Q ++ ((zs.take k).filter fun z => decide ((h : Int) ≤ z)).map (· + 1)) ∧ Below w.heap.size w wi)
          (fun _ i _ => zs.length - (intOf i).toNat)
        case atStart => exact ⟨0, Nat.zero_le _, rfl, by simpa using HOQ.out, HBQ.out⟩
        case round =>
          obtain ⟨k, hk, rfl, ho, hb⟩ := hrel
          have HOI := Lib.hid ho
          have HBI := Lib.hid hb
          have hsb := hb.size
          have hrs := HR.out.step hb
          clear ho hb
          by_cases hlt : k < zs.length
          · rcases hrs with h0 | ⟨b2, o2, hab, hc⟩
            · rw [h0] at hlt; exact absurd hlt (Nat.not_lt_zero _)
            cases hab
            have hcell := hc k hlt
            have hi0 : (k : Int) < (zs.length : Int) := by omega
            obtain ⟨z0, z1⟩ := HZ.out k hlt
            have HTN := Lib.hid (show zs.take (k + 1) = zs.take k ++ [nth zs k] by rw [nth_lt hlt]; exact List.take_succ_eq_append_getElem hlt)
            have hfl : (((zs.take k).filter fun z => decide ((h : Int) ≤ z)).map (· + 1)).length ≤ 7 := by
              rw [List.length_map]
              refine Nat.le_trans (List.length_filter_le _ _) ?_
              rw [List.length_take]; omega
            clear hc
            by_cases hge : (h : Int) ≤ nth zs k
            · have HST := Lib.hid (show Q ++ ((zs.take (k + 1)).filter fun z => decide ((h : Int) ≤ z)).map (· + 1) = (Q ++ ((zs.take k).filter fun z => decide ((h : Int) ≤ z)).map (· + 1)) ++ [nth zs k + 1] by
                rw [HTN.out]; simp [List.filter_append, hge])
              generalize nth zs k = z at *
              have hfq : (Q ++ ((zs.take k).filter fun z => decide ((h : Int) ≤ z)).map (· + 1)).length ≤ 20 := by rw [List.length_append]; omega
              generalize hM : Q ++ ((zs.take k).filter fun z => decide ((h : Int) ≤ z)).map (· + 1) = M at *
              clear hM hfl
              go_wp2_with (at_builtin; refine wpList_append_own _ rfl _ _ 28 rfl w.heap.size 2 i0 (.int .i64 0) 1 8 Tryd.underlying28 hi hz0 hz1 hz2 rfl (by decide) _ _ _ rfl (World.ownsRow.alloc HOI.out _) ⟨wr.heap.size, 0, none⟩ 1 1 [.int .i64 (z + 1)] rfl rfl (cell_one_new _ _ _) (by simp [Value.oneCell']) (by unfold maxLen; omega) (by omega) (by simp; omega) ?_; intro v' w5 hown hgrow _; have HOWN := Lib.hid hown; have HGROW := Lib.hid hgrow; clear hown hgrow)
              go_wp2
              go_roundw
              case rel =>
                refine ⟨k + 1, by omega, by go_num, ?_, ?_⟩
                · rw [HST.out]; unfold OwnI; rw [vals_snoc, List.length_append]; exact HOWN.out
                · exact (HBI.out.alloc hsb _).grown HGROW.out (by simp; omega) (fun q hq => (World.ownsRow.lt HOI.out q hq).1)
              case measure => simp [intOf]; omega
            · have HST := Lib.hid (show Q ++ ((zs.take (k + 1)).filter fun z => decide ((h : Int) ≤ z)).map (· + 1) = (Q ++ ((zs.take k).filter fun z => decide ((h : Int) ≤ z)).map (· + 1)) by
                rw [HTN.out]; simp [List.filter_append, hge])
              generalize nth zs k = z at *
              go_wp2_with fail
              go_roundw
              case rel => exact ⟨k + 1, by omega, by go_num, by rw [HST.out]; exact HOI.out, HBI.out⟩
              case measure => simp [intOf]; omega
          · have hi0 : ¬ (k : Int) < (zs.length : Int) := by omega
            have HKL := Lib.hid (show zs.take k = zs from List.take_of_length_le (by omega))
            go_wp2_with fail
            go_ret
            refine ⟨⟨_, rfl, ?_⟩, HBI.out⟩
            have h9 := HOI.out
            rw [HKL.out] at h9
            rw [← HFIN.out]
            exact h9
    · have hi0 : ¬ (k : Int) < (zs.length : Int) := by omega
      have HPE := Lib.hid (show zs.take k = P by rw [HP.out]; exact take_low HPW.out hk HALL.out (.inl (by omega)))
      clear hrs
      have hpl : P.length ≤ 7 := by
        rw [← HPE.out, List.length_take]; omega
      have hop := HOI1.out
      rw [HPE.out] at hop
      have HOP := Lib.hid hop
      have HBP := Lib.hid HBI1.out
      have hsp := hsb1
      clear hop
      go_wp2_with (at_builtin; refine wpList_append_own _ rfl _ _ 28 rfl w.heap.size 2 i0 (.int .i64 0) 1 8 Tryd.underlying28 hi hz0 hz1 hz2 rfl (by decide) _ _ _ rfl (World.ownsRow.alloc HOP.out _) ⟨wr.heap.size, 0, none⟩ 1 1 [.int .i64 h] rfl rfl (cell_one_new _ _ _) (by simp [Value.oneCell']) (by unfold maxLen; omega) (by omega) (by simp; omega) ?_; intro v' w4 hown hgrow _; have HOWN := Lib.hid hown; have HGROW := Lib.hid hgrow; clear hown hgrow)
      have HOQ := Lib.hid (show OwnI w4 w.heap.size v' (P ++ [(h : Int)]) by unfold OwnI; rw [vals_snoc, List.length_append]; exact HOWN.out)
      have HBQ := Lib.hid (show Below w.heap.size w w4 from (HBP.out.alloc hsp _).grown HGROW.out (by simp; omega) (fun q hq => (World.ownsRow.lt HOP.out q hq).1))
      clear HOWN HGROW
      have hql : (P ++ [(h : Int)]).length ≤ 8 := by simp; omega

      generalize hQQ : P ++ [(h : Int)] = Q at *
      clear hQQ
      go_loopw [7, 9] (fun v i wi => ∃ k, k ≤ zs.length ∧ i = .int .i64 (k : Nat) ∧ OwnI wi w.heap.size v (Q ++ ((zs.take k).filter fun z => decide ((h : Int) ≤ z)).map (· + 1)) ∧ Below w.heap.size w wi)
        (fun _ i _ => zs.length - (intOf i).toNat)
      case atStart => exact ⟨0, Nat.zero_le _, rfl, by simpa using HOQ.out, HBQ.out⟩
      case round =>
        obtain ⟨k, hk, rfl, ho, hb⟩ := hrel
        have HOI := Lib.hid ho
        have HBI := Lib.hid hb
        have hsb := hb.size
        have hrs := HR.out.step hb
        clear ho hb
        by_cases hlt : k < zs.length
        · rcases hrs with h0 | ⟨b2, o2, hab, hc⟩
          · rw [h0] at hlt; exact absurd hlt (Nat.not_lt_zero _)
          cases hab
          have hcell := hc k hlt
          have hi0 : (k : Int) < (zs.length : Int) := by omega
          obtain ⟨z0, z1⟩ := HZ.out k hlt
          have HTN := Lib.hid (show zs.take (k + 1) = zs.take k ++ [nth zs k] by rw [nth_lt hlt]; exact List.take_succ_eq_append_getElem hlt)
          have hfl : (((zs.take k).filter fun z => decide ((h : Int) ≤ z)).map (· + 1)).length ≤ 7 := by
            rw [List.length_map]
            refine Nat.le_trans (List.length_filter_le _ _) ?_
            rw [List.length_take]; omega
          clear hc
          by_cases hge : (h : Int) ≤ nth zs k
          · have HST := Lib.hid (show Q ++ ((zs.take (k + 1)).filter fun z => decide ((h : Int) ≤ z)).map (· + 1) = (Q ++ ((zs.take k).filter fun z => decide ((h : Int) ≤ z)).map (· + 1)) ++ [nth zs k + 1] by
              rw [HTN.out]; simp [List.filter_append, hge])
            generalize nth zs k = z at *
            have hfq : (Q ++ ((zs.take k).filter fun z => decide ((h : Int) ≤ z)).map (· + 1)).length ≤ 20 := by rw [List.length_append]; omega
            generalize hM : Q ++ ((zs.take k).filter fun z => decide ((h : Int) ≤ z)).map (· + 1) = M at *
            clear hM hfl
            go_wp2_with (at_builtin; refine wpList_append_own _ rfl _ _ 28 rfl w.heap.size 2 i0 (.int .i64 0) 1 8 Tryd.underlying28 hi hz0 hz1 hz2 rfl (by decide) _ _ _ rfl (World.ownsRow.alloc HOI.out _) ⟨wr.heap.size, 0, none⟩ 1 1 [.int .i64 (z + 1)] rfl rfl (cell_one_new _ _ _) (by simp [Value.oneCell']) (by unfold maxLen; omega) (by omega) (by simp; omega) ?_; intro v' w5 hown hgrow _; have HOWN := Lib.hid hown; have HGROW := Lib.hid hgrow; clear hown hgrow)
            go_wp2
            go_roundw
            case rel =>
              refine ⟨k + 1, by omega, by go_num, ?_, ?_⟩
              · rw [HST.out]; unfold OwnI; rw [vals_snoc, List.length_append]; exact HOWN.out
              · exact (HBI.out.alloc hsb _).grown HGROW.out (by simp; omega) (fun q hq => (World.ownsRow.lt HOI.out q hq).1)
            case measure => simp [intOf]; omega
          · have HST := Lib.hid (show Q ++ ((zs.take (k + 1)).filter fun z => decide ((h : Int) ≤ z)).map (· + 1) = (Q ++ ((zs.take k).filter fun z => decide ((h : Int) ≤ z)).map (· + 1)) by
              rw [HTN.out]; simp [List.filter_append, hge])
            generalize nth zs k = z at *
            go_wp2_with fail
            go_roundw
            case rel => exact ⟨k + 1, by omega, by go_num, by rw [HST.out]; exact HOI.out, HBI.out⟩
            case measure => simp [intOf]; omega
        · have hi0 : ¬ (k : Int) < (zs.length : Int) := by omega
          have HKL := Lib.hid (show zs.take k = zs from List.take_of_length_le (by omega))
          go_wp2_with fail
          go_ret
          refine ⟨⟨_, rfl, ?_⟩, HBI.out⟩
          have h9 := HOI.out
          rw [HKL.out] at h9
          rw [← HFIN.out]
          exact h9
set_option maxRecDepth 100000 in
set_option maxHeartbeats 2000000 in
theorem a2Wide_false (a : Option Addr) (x c h n : Nat) (w : World) (hr : Ints w a (listOf x)) (hx : x < 2 ^ n) (hn : n ≤ 6) (hh : h ≤ n) :
    Calls Tryd.prog 29 #[.slice a (listOf x).length c, .int .i64 (h : Nat), .bool false] w (GivesInts w (listOf (minN false h x))) := by
  obtain ⟨i0, hi, hz0, hz1, hz2⟩ := info_parts Tryd.infoInt64
  have hx64 : x < 64 := by have : (2 : Nat) ^ n ≤ 2 ^ 6 := Nat.pow_le_pow_right (by decide) hn; omega
  have HFIN := Lib.hid (show ((listOf x).filter fun z => decide (z < (h : Int))) ++ (((listOf x).filter fun z => decide ((h : Int) ≤ z)).map (· + 1)) = listOf (minN false h x) by
    have h9 := wide_fact h (by omega) x hx64 false
    rw [show (if false = true then [(h : Int)] else []) = [] from rfl, List.append_nil] at h9
    exact h9)
  have hg := grp_list (m := n) (by omega) hx
  have hpw := grp_pairwise hg
  have HZ := Lib.hid (show ∀ k, k < (listOf x).length → 0 ≤ nth (listOf x) k ∧ nth (listOf x) k ≤ 6 from fun k hk => by
    have := grp_mem hg (nth (listOf x) k) (by rw [nth_lt hk]; exact List.getElem_mem _)
    omega)
  have hl7 : (listOf x).length ≤ 7 := listTo_len x 7
  have HR := Lib.hid hr
  have HPW := Lib.hid hpw
  clear hr hx hg hpw hx64
  generalize listOf (minN false h x) = Y at *
  generalize listOf x = zs at *
  obtain ⟨P, hP⟩ : ∃ P, P = zs.filter fun z => decide (z < (h : Int)) := ⟨_, rfl⟩
  rw [← hP] at HFIN
  have HP := Lib.hid hP
  clear hP
  go_enter Tryd.func29, Tryd.ntmps29
  go_wp2_with fail
  have hown : OwnI (w.alloc (.cells #[] 2)) w.heap.size (.slice (some ⟨w.heap.size, 0, none⟩) 0 0) [] := World.ownsRow_made w #[] 0 (Nat.le_refl _) (by unfold maxLen; omega) rfl
  have hb1 := (Below.refl w.heap.size w).alloc (Nat.le_refl _) (.cells #[] 2)
  generalize (Value.slice (some ⟨w.heap.size, 0, none⟩) 0 0) = v0 at *
  go_loopw [7, 8] (fun v i wr => ∃ k : Nat, k ≤ zs.length ∧ i = .int .i64 k ∧ OwnI wr w.heap.size v (zs.take k) ∧ Below w.heap.size w wr ∧ ∀ j, j < k → nth zs j < (h : Int))
    (fun _ i _ => zs.length - (intOf i).toNat)
  case atStart => exact ⟨0, by omega, rfl, by simpa using hown, hb1, fun j hj => absurd hj (Nat.not_lt_zero _)⟩
  case round =>
    obtain ⟨k, hk, rfl, ho, hb, hall⟩ := hrel
    have HOI1 := Lib.hid ho
    have HBI1 := Lib.hid hb
    have hsb1 := hb.size
    have HALL := Lib.hid hall
    have hrs := HR.out.step hb
    clear ho hb hall hown hb1
    by_cases hlt : k < zs.length
    · rcases hrs with h0 | ⟨b, o, rfl, hc⟩
      · rw [h0] at hlt; exact absurd hlt (Nat.not_lt_zero _)
      have hcell := hc k hlt
      have hi0 : (k : Int) < (zs.length : Int) := by omega
      have HTN := Lib.hid (show zs.take (k + 1) = zs.take k ++ [nth zs k] by rw [nth_lt hlt]; exact List.take_succ_eq_append_getElem hlt)
      have htl : (zs.take k).length ≤ 7 := by rw [List.length_take]; omega
      clear hc
      by_cases hls : nth zs k < (h : Int)
      · have HLS := Lib.hid hls
        obtain ⟨z, hz⟩ : ∃ z, nth zs k = z := ⟨_, rfl⟩
        have HZZ := Lib.hid hz
        rw [hz] at hcell hls HTN
        clear hz
        go_wp2_with (at_builtin; refine wpList_append_own _ rfl _ _ 28 rfl w.heap.size 2 i0 (.int .i64 0) 1 8 Tryd.underlying28 hi hz0 hz1 hz2 rfl (by decide) _ _ _ rfl (World.ownsRow.alloc HOI1.out _) ⟨wr.heap.size, 0, none⟩ 1 1 [.int .i64 z] rfl rfl (cell_one_new _ _ _) (by simp [Value.oneCell']) (by unfold maxLen; omega) (by omega) (by simp; omega) ?_; intro v' w5 hown hgrow _; have HOWN := Lib.hid hown; have HGROW := Lib.hid hgrow; clear hown hgrow)
        go_wp2
        go_roundw
        case rel =>
          refine ⟨k + 1, by omega, by go_num, ?_, ?_, fun j hj => ?_⟩
          · rw [HTN.out]; unfold OwnI; rw [vals_snoc, List.length_append]; exact HOWN.out
          · exact (HBI1.out.alloc hsb1 _).grown HGROW.out (by simp; omega) (fun q hq => (World.ownsRow.lt HOI1.out q hq).1)
          · by_cases e : j = k
            · subst e; exact HLS.out
            · exact HALL.out j (by omega)
        case measure => simp [intOf]; omega
      · have HPE := Lib.hid (show zs.take k = P by rw [HP.out]; exact take_low HPW.out hk HALL.out (.inr (by omega)))
        clear HTN htl
        have hpl : P.length ≤ 7 := by
          rw [← HPE.out, List.length_take]; omega
        have hop := HOI1.out
        rw [HPE.out] at hop
        have HOP := Lib.hid hop
        have HBP := Lib.hid HBI1.out
        have hsp := hsb1
        clear hop
        go_wp2_with fail
        have HOQ := Lib.hid HOP.out
        have HBQ := Lib.hid HBP.out
        have hql : P.length ≤ 8 := by omega

        generalize hQQ : P = Q at *
        clear hQQ
        go_loopw [7, 9] (fun v i wi => ∃ k, k ≤ zs.length ∧ i = .int .i64 (k : Nat) ∧ OwnI wi w.heap.size v (Q ++ ((zs.take k).filter fun z => decide ((h : Int) ≤ z)).map (· + 1)) ∧ Below w.heap.size w wi)
          (fun _ i _ => zs.length - (intOf i).toNat)
        case atStart => exact ⟨0, Nat.zero_le _, rfl, by simpa using HOQ.out, HBQ.out⟩
        case round =>
          obtain ⟨k, hk, rfl, ho, hb⟩ := hrel
          have HOI := Lib.hid ho
          have HBI := Lib.hid hb
          have hsb := hb.size
          have hrs := HR.out.step hb
          clear ho hb
          by_cases hlt : k < zs.length
          · rcases hrs with h0 | ⟨b2, o2, hab, hc⟩
            · rw [h0] at hlt; exact absurd hlt (Nat.not_lt_zero _)
            cases hab
            have hcell := hc k hlt
            have hi0 : (k : Int) < (zs.length : Int) := by omega
            obtain ⟨z0, z1⟩ := HZ.out k hlt
            have HTN := Lib.hid (show zs.take (k + 1) = zs.take k ++ [nth zs k] by rw [nth_lt hlt]; exact List.take_succ_eq_append_getElem hlt)
            have hfl : (((zs.take k).filter fun z => decide ((h : Int) ≤ z)).map (· + 1)).length ≤ 7 := by
              rw [List.length_map]
              refine Nat.le_trans (List.length_filter_le _ _) ?_
              rw [List.length_take]; omega
            clear hc
            by_cases hge : (h : Int) ≤ nth zs k
            · have HST := Lib.hid (show Q ++ ((zs.take (k + 1)).filter fun z => decide ((h : Int) ≤ z)).map (· + 1) = (Q ++ ((zs.take k).filter fun z => decide ((h : Int) ≤ z)).map (· + 1)) ++ [nth zs k + 1] by
                rw [HTN.out]; simp [List.filter_append, hge])
              generalize nth zs k = z at *
              have hfq : (Q ++ ((zs.take k).filter fun z => decide ((h : Int) ≤ z)).map (· + 1)).length ≤ 20 := by rw [List.length_append]; omega
              generalize hM : Q ++ ((zs.take k).filter fun z => decide ((h : Int) ≤ z)).map (· + 1) = M at *
              clear hM hfl
              go_wp2_with (at_builtin; refine wpList_append_own _ rfl _ _ 28 rfl w.heap.size 2 i0 (.int .i64 0) 1 8 Tryd.underlying28 hi hz0 hz1 hz2 rfl (by decide) _ _ _ rfl (World.ownsRow.alloc HOI.out _) ⟨wr.heap.size, 0, none⟩ 1 1 [.int .i64 (z + 1)] rfl rfl (cell_one_new _ _ _) (by simp [Value.oneCell']) (by unfold maxLen; omega) (by omega) (by simp; omega) ?_; intro v' w5 hown hgrow _; have HOWN := Lib.hid hown; have HGROW := Lib.hid hgrow; clear hown hgrow)
              go_wp2
              go_roundw
              case rel =>
                refine ⟨k + 1, by omega, by go_num, ?_, ?_⟩
                · rw [HST.out]; unfold OwnI; rw [vals_snoc, List.length_append]; exact HOWN.out
                · exact (HBI.out.alloc hsb _).grown HGROW.out (by simp; omega) (fun q hq => (World.ownsRow.lt HOI.out q hq).1)
              case measure => simp [intOf]; omega
            · have HST := Lib.hid (show Q ++ ((zs.take (k + 1)).filter fun z => decide ((h : Int) ≤ z)).map (· + 1) = (Q ++ ((zs.take k).filter fun z => decide ((h : Int) ≤ z)).map (· + 1)) by
                rw [HTN.out]; simp [List.filter_append, hge])
              generalize nth zs k = z at *
              go_wp2_with fail
              go_roundw
              case rel => exact ⟨k + 1, by omega, by go_num, by rw [HST.out]; exact HOI.out, HBI.out⟩
              case measure => simp [intOf]; omega
          · have hi0 : ¬ (k : Int) < (zs.length : Int) := by omega
            have HKL := Lib.hid (show zs.take k = zs from List.take_of_length_le (by omega))
            go_wp2_with fail
            go_ret
            refine ⟨⟨_, rfl, ?_⟩, HBI.out⟩
            have h9 := HOI.out
            rw [HKL.out] at h9
            rw [← HFIN.out]
            exact h9
    · have hi0 : ¬ (k : Int) < (zs.length : Int) := by omega
      have HPE := Lib.hid (show zs.take k = P by rw [HP.out]; exact take_low HPW.out hk HALL.out (.inl (by omega)))
      clear hrs
      have hpl : P.length ≤ 7 := by
        rw [← HPE.out, List.length_take]; omega
      have hop := HOI1.out
      rw [HPE.out] at hop
      have HOP := Lib.hid hop
      have HBP := Lib.hid HBI1.out
      have hsp := hsb1
      clear hop
      go_wp2_with fail
      have HOQ := Lib.hid HOP.out
      have HBQ := Lib.hid HBP.out
      have hql : P.length ≤ 8 := by omega

      generalize hQQ : P = Q at *
      clear hQQ
      go_loopw [7, 9] (fun v i wi => ∃ k, k ≤ zs.length ∧ i = .int .i64 (k : Nat) ∧ OwnI wi w.heap.size v (Q ++ ((zs.take k).filter fun z => decide ((h : Int) ≤ z)).map (· + 1)) ∧ Below w.heap.size w wi)
        (fun _ i _ => zs.length - (intOf i).toNat)
      case atStart => exact ⟨0, Nat.zero_le _, rfl, by simpa using HOQ.out, HBQ.out⟩
      case round =>
        obtain ⟨k, hk, rfl, ho, hb⟩ := hrel
        have HOI := Lib.hid ho
        have HBI := Lib.hid hb
        have hsb := hb.size
        have hrs := HR.out.step hb
        clear ho hb
        by_cases hlt : k < zs.length
        · rcases hrs with h0 | ⟨b2, o2, hab, hc⟩
          · rw [h0] at hlt; exact absurd hlt (Nat.not_lt_zero _)
          cases hab
          have hcell := hc k hlt
          have hi0 : (k : Int) < (zs.length : Int) := by omega
          obtain ⟨z0, z1⟩ := HZ.out k hlt
          have HTN := Lib.hid (show zs.take (k + 1) = zs.take k ++ [nth zs k] by rw [nth_lt hlt]; exact List.take_succ_eq_append_getElem hlt)
          have hfl : (((zs.take k).filter fun z => decide ((h : Int) ≤ z)).map (· + 1)).length ≤ 7 := by
            rw [List.length_map]
            refine Nat.le_trans (List.length_filter_le _ _) ?_
            rw [List.length_take]; omega
          clear hc
          by_cases hge : (h : Int) ≤ nth zs k
          · have HST := Lib.hid (show Q ++ ((zs.take (k + 1)).filter fun z => decide ((h : Int) ≤ z)).map (· + 1) = (Q ++ ((zs.take k).filter fun z => decide ((h : Int) ≤ z)).map (· + 1)) ++ [nth zs k + 1] by
              rw [HTN.out]; simp [List.filter_append, hge])
            generalize nth zs k = z at *
            have hfq : (Q ++ ((zs.take k).filter fun z => decide ((h : Int) ≤ z)).map (· + 1)).length ≤ 20 := by rw [List.length_append]; omega
            generalize hM : Q ++ ((zs.take k).filter fun z => decide ((h : Int) ≤ z)).map (· + 1) = M at *
            clear hM hfl
            go_wp2_with (at_builtin; refine wpList_append_own _ rfl _ _ 28 rfl w.heap.size 2 i0 (.int .i64 0) 1 8 Tryd.underlying28 hi hz0 hz1 hz2 rfl (by decide) _ _ _ rfl (World.ownsRow.alloc HOI.out _) ⟨wr.heap.size, 0, none⟩ 1 1 [.int .i64 (z + 1)] rfl rfl (cell_one_new _ _ _) (by simp [Value.oneCell']) (by unfold maxLen; omega) (by omega) (by simp; omega) ?_; intro v' w5 hown hgrow _; have HOWN := Lib.hid hown; have HGROW := Lib.hid hgrow; clear hown hgrow)
            go_wp2
            go_roundw
            case rel =>
              refine ⟨k + 1, by omega, by go_num, ?_, ?_⟩
              · rw [HST.out]; unfold OwnI; rw [vals_snoc, List.length_append]; exact HOWN.out
              · exact (HBI.out.alloc hsb _).grown HGROW.out (by simp; omega) (fun q hq => (World.ownsRow.lt HOI.out q hq).1)
            case measure => simp [intOf]; omega
          · have HST := Lib.hid (show Q ++ ((zs.take (k + 1)).filter fun z => decide ((h : Int) ≤ z)).map (· + 1) = (Q ++ ((zs.take k).filter fun z => decide ((h : Int) ≤ z)).map (· + 1)) by
              rw [HTN.out]; simp [List.filter_append, hge])
            generalize nth zs k = z at *
            go_wp2_with fail
            go_roundw
            case rel => exact ⟨k + 1, by omega, by go_num, by rw [HST.out]; exact HOI.out, HBI.out⟩
            case measure => simp [intOf]; omega
        · have hi0 : ¬ (k : Int) < (zs.length : Int) := by omega
          have HKL := Lib.hid (show zs.take k = zs from List.take_of_length_le (by omega))
          go_wp2_with fail
          go_ret
          refine ⟨⟨_, rfl, ?_⟩, HBI.out⟩
          have h9 := HOI.out
          rw [HKL.out] at h9
          rw [← HFIN.out]
          exact h9
end Go.Proofs.YteifllengcacbaaDoor

namespace Go.Proofs.YteifllengcacbaaDoor
open Go.RowKit Go.Deep Go.Joins
set_option linter.unusedVariables false

theorem wide_bits : ∀ k : Nat, k < 7 → ∀ x : Nat, x < 64 → ∀ j : Nat, j < 7 → (wideN k x).testBit j = ((decide (j < k) && x.testBit j) || (decide (k < j) && x.testBit (j - 1))) := by decide +kernel
theorem wide_inb {k x y : Nat} (hk : k < 7) (hx : x < 64) (hy : y < 64) (hkx : wideN k x < 128) (h : Inb x y) : Inb (wideN k x) (wideN k y) := fun j hj => by
  have hj7 : j < 7 := bit_lt (m := 7) hkx hj
  rw [wide_bits k hk x hx j hj7] at hj
  rw [wide_bits k hk y hy j hj7]
  simp only [Bool.or_eq_true, Bool.and_eq_true, decide_eq_true_eq] at hj ⊢
  exact hj.imp (fun h1 => ⟨h1.1, h j h1.2⟩) (fun h1 => ⟨h1.1, h _ h1.2⟩)
theorem min_inb {tr : Bool} {k x y : Nat} (hk : k < 7) (hx : x < 64) (hy : y < 64) (hkx : wideN k x < 128) (h : Inb x y) : Inb (minN tr k x) (minN tr k y) := by
  have h1 := wide_inb hk hx hy hkx h
  unfold minN
  cases tr with
  | false => simpa using h1
  | true =>
    intro j hj
    simp only [if_true] at hj ⊢
    rw [Nat.testBit_or, Bool.or_eq_true] at hj ⊢
    exact hj.imp (h1 j) id
theorem pow_64 {n : Nat} (h : n ≤ 6) : 2 ^ n ≤ 64 := by
  have : (2 : Nat) ^ n ≤ 2 ^ 6 := Nat.pow_le_pow_right (by decide) h
  omega
theorem min_mono {n j : Nat} (tr : Bool) (hn : n ≤ 6) (hj : j ≤ n) (zss : List (List Int)) : Mono n (minB tr j zss) := fun x y hx hy hs h => by
  have h6 := pow_64 hn
  have h128 := pow_128 (show n + 1 ≤ 7 by omega)
  have lx : minN tr j x < 2 ^ (n + 1) := minN_lt tr (by omega) (by omega) (by simpa using hx)
  have ly : minN tr j y < 2 ^ (n + 1) := minN_lt tr (by omega) (by omega) (by simpa using hy)
  have hw : wideN j x < 2 ^ (n + 1) := wide_lt (n + 1) (by omega) j (by omega) x (by omega) (by simpa using hx)
  exact tbl_mono (n + 1) zss zss.length _ _ lx ly (min_inb (by omega) (by omega) (by omega) (by omega) hs) h
theorem withoutG {m n j : Nat} (a : Option Addr) (zss : List (List Int)) (c : Nat) (w : World) (hm : m = n + 1) (n1 : 1 ≤ n) (h7 : n ≤ 6) (hj : j ≤ n) (hf : FamOk (m : Int) zss) (hr : Rows2 w a zss) :
    Calls Tryd.prog 27 #[.agg #[.int .i64 (m : Nat), .slice a zss.length c], .int .i64 (j : Nat)] w fun e w' => GF w' n (minB false j zss) e ∧ Below w.heap.size w w' := by
  have h := implWo_any (m : Int) a zss c (j : Int) w hr (fam_small (by omega) hf) (by simp [Lit.wf, IntKind.min, IntKind.max, IntKind.signed, IntKind.bits]; omega)
  rw [min_in hf (by omega) (by omega), show m - 1 = n by omega, show (m : Int) - 1 = (n : Nat) by omega] at h
  exact h.mono fun e w' g => ⟨GF.of n1 (by omega) (min_mono false h7 hj zss) g, g.below⟩
theorem trustG {m n j : Nat} (a : Option Addr) (zss : List (List Int)) (c : Nat) (w : World) (hm : m = n + 1) (n1 : 1 ≤ n) (h7 : n ≤ 6) (hj : j ≤ n) (hf : FamOk (m : Int) zss) (hr : Rows2 w a zss) :
    Calls Tryd.prog 28 #[.agg #[.int .i64 (m : Nat), .slice a zss.length c], .int .i64 (j : Nat)] w fun e w' => GF w' n (minB true j zss) e ∧ Below w.heap.size w w' := by
  have h := implTr_any (m : Int) a zss c (j : Int) w hr (fam_small (by omega) hf) (by simp [Lit.wf, IntKind.min, IntKind.max, IntKind.signed, IntKind.bits]; omega)
  rw [min_in hf (by omega) (by omega), show m - 1 = n by omega, show (m : Int) - 1 = (n : Nat) by omega] at h
  exact h.mono fun e w' g => ⟨GF.of n1 (by omega) (min_mono true h7 hj zss) g, g.below⟩
/-- The last holder of one alone is not taken out. -/
theorem without1 (a : Option Addr) (zss : List (List Int)) (c : Nat) (w : World) (hf : FamOk (1 : Int) zss) (hr : Rows2 w a zss) :
    Calls Tryd.prog 27 #[.agg #[.int .i64 1, .slice a zss.length c], .int .i64 0] w fun e w' => (∃ a c, e = .returned (.tuple #[.agg #[.int .i64 0, .slice a ([] : List (List Int)).length c], .int .i64 4])) ∧ Below w.heap.size w w' := by
  have h := implWo_any 1 a zss c 0 w hr (fam_small (m := 1) (by omega) hf) (by decide)
  rw [min_one hf (by omega) rfl] at h
  exact h.mono fun e w' g => ⟨by
    obtain ⟨v, us, rfl, hrow, hrows⟩ := g.val
    obtain ⟨a, c, hv, hr⟩ := Own.rows2 (zss := []) ⟨hrow, hrows⟩
    subst hv
    exact ⟨a, c, rfl⟩, g.below⟩
theorem trust1 (a : Option Addr) (zss : List (List Int)) (c : Nat) (w : World) (hf : FamOk (1 : Int) zss) (hr : Rows2 w a zss) :
    Calls Tryd.prog 28 #[.agg #[.int .i64 1, .slice a zss.length c], .int .i64 0] w fun e w' => (∃ a c, e = .returned (.tuple #[.agg #[.int .i64 0, .slice a ([] : List (List Int)).length c], .int .i64 4])) ∧ Below w.heap.size w w' := by
  have h := implTr_any 1 a zss c 0 w hr (fam_small (m := 1) (by omega) hf) (by decide)
  rw [min_one hf (by omega) rfl] at h
  exact h.mono fun e w' g => ⟨by
    obtain ⟨v, us, rfl, hrow, hrows⟩ := g.val
    obtain ⟨a, c, hv, hr⟩ := Own.rows2 (zss := []) ⟨hrow, hrows⟩
    subst hv
    exact ⟨a, c, rfl⟩, g.below⟩
/-- All others of a group with room for a holder: with the holder they are all others. -/
theorem off_wide : ∀ n : Nat, n < 7 → ∀ k : Nat, k < 7 → k ≤ n → ∀ x : Nat, x < 64 → x < 2 ^ n → 2 ^ (n + 1) - 1 - minN false k (2 ^ n - 1 - x) = minN true k x := by decide +kernel
end Go.Proofs.YteifllengcacbaaDoor

namespace Go.Proofs.YteifllengcacbaaDoor
open Go.RowKit Go.Deep Go.Joins
set_option linter.unusedVariables false

theorem a2Wide_b (tr : Bool) (a : Option Addr) (x c h n : Nat) (w : World) (hr : Ints w a (listOf x)) (hx : x < 2 ^ n) (hn : n ≤ 6) (hh : h ≤ n) :
    Calls Tryd.prog 29 #[.slice a (listOf x).length c, .int .i64 (h : Nat), .bool tr] w (GivesInts w (listOf (minN tr h x))) := by
  cases tr with
  | true => exact a2Wide_true a x c h n w hr hx hn hh
  | false => exact a2Wide_false a x c h n w hr hx hn hh
theorem low_inb {k x y : Nat} (h : Inb x y) : Inb (lowN k x) (lowN k y) := fun i hi => by
  unfold lowN at hi ⊢
  rw [Nat.testBit_and, Bool.and_eq_true] at hi ⊢
  exact ⟨h i hi.1, hi.2⟩
theorem div_bit (x k i : Nat) : (x / 2 ^ k).testBit i = x.testBit (k + i) := by
  rw [← Nat.shiftRight_eq_div_pow, Nat.testBit_shiftRight]
theorem div_inb {k x y : Nat} (h : Inb x y) : Inb (x / 2 ^ k) (y / 2 ^ k) := fun i hi => by
  rw [div_bit] at hi ⊢
  exact h _ hi
theorem min_up {k x : Nat} : Inb (minN false k x) (minN true k x) := fun i hi => by
  unfold minN at hi ⊢
  simp only [if_true] at hi ⊢
  rw [Nat.testBit_or, Bool.or_eq_true]
  exact .inl (by simpa using hi)
theorem div_lt {x k t n : Nat} (ht : k + n = t) (hx : x < 2 ^ t) : x / 2 ^ k < 2 ^ n := by
  rw [Nat.div_lt_iff_lt_mul (Nat.pow_pos (by decide)), ← Nat.pow_add, Nat.add_comm n k, ht]
  exact hx
theorem put_mono {j k n t : Nat} (ht : k + n = t) (h7 : t ≤ 7) (hk : k < 7) (hj : j ≤ k) (z1 z2 : List (List Int)) : Mono t (putB j k z1 z2) := fun x y hx hy hs h => by
  have h128 := pow_128 h7
  have lx := putN_lt (j := j) (k := k) z2 (x := x) hk hj (by omega)
  have ly := putN_lt (j := j) (k := k) z2 (x := y) hk hj (by omega)
  refine tbl_mono (k + 1) z1 z1.length _ _ lx ly ?_ h
  have hd := div_inb (k := k) hs
  have hl := low_inb (k := k) hs
  have l1 := low_lt k hk x (by omega)
  have l2 := low_lt k hk y (by omega)
  have p6 := pow_64 (n := k) (by omega)
  have p128 := pow_128 (m := k + 1) (by omega)
  have hw : wideN j (lowN k x) < 2 ^ (k + 1) := wide_lt (k + 1) (by omega) j (by omega) _ (by omega) (by simpa using l1)
  have hmi : ∀ tr, Inb (minN tr j (lowN k x)) (minN tr j (lowN k y)) := fun tr => min_inb (by omega) (by omega) (by omega) (by omega) hl
  unfold putN
  cases hb : tblAt z2 z2.length (x / 2 ^ k) with
  | true =>
    have := tbl_mono n z2 z2.length _ _ (div_lt ht hx) (div_lt ht hy) hd hb
    rw [this]
    exact hmi true
  | false =>
    cases tblAt z2 z2.length (y / 2 ^ k) with
    | false => exact hmi false
    | true => exact (hmi false).trans min_up
theorem putG {m1 m2 k t j : Nat} (a1 : Option Addr) (z1 : List (List Int)) (c1 : Nat) (a2 : Option Addr) (z2 : List (List Int)) (c2 : Nat) (w : World) (hm : m1 = k + 1) (ht : k + m2 = t) (t1 : 1 ≤ t) (t7 : t ≤ 7) (k6 : k ≤ 6) (n7 : m2 ≤ 7) (hj : j ≤ k) (hf1 : FamOk (m1 : Int) z1) (hf2 : FamOk (m2 : Int) z2) (hr1 : Rows2 w a1 z1) (hr2 : Rows2 w a2 z2) :
    Calls Tryd.prog 32 #[.agg #[.int .i64 (m1 : Nat), .slice a1 z1.length c1], .int .i64 (j : Nat), .agg #[.int .i64 (m2 : Nat), .slice a2 z2.length c2]] w fun e w' => GF w' t (putB j k z1 z2) e ∧ Below w.heap.size w w' := by
  have h := implPu_any (m1 : Int) a1 z1 c1 (j : Int) (m2 : Int) a2 z2 c2 w hr1 (fam_small (by omega) hf1) hr2 (fam_small n7 hf2)
  rw [put_yes (h1 := (m1 : Int)) (z1 := z1) (i := j) (k := k) (t := t) (h2 := (m2 : Int)) (z2 := z2) ⟨hf1, hf2⟩ (by omega) (by omega) (by omega) t7] at h
  exact h.mono fun e w' g => ⟨GF.of t1 t7 (put_mono ht t7 (by omega) hj z1 z2) g, g.below⟩
theorem put_low : ∀ k : Nat, k < 7 → ∀ x : Nat, x < 128 → ((listOf x).filter fun z => decide (z < (k : Int))) = listOf (lowN k x) := by decide +kernel
theorem put_high : ∀ k : Nat, k < 7 → ∀ x : Nat, x < 128 → (((listOf x).filter fun z => decide ((k : Int) ≤ z)).map fun z => z - (k : Int)) = listOf (x / 2 ^ k) := by decide +kernel
end Go.Proofs.YteifllengcacbaaDoor

namespace Go.Proofs.YteifllengcacbaaDoor
open Go.ChangeShapes Go.WideShapes Go.ChangeAt Go.RowKit Go.Deep Go.Joins
set_option linter.unusedVariables false
namespace PutL

set_option maxRecDepth 100000 in
set_option maxHeartbeats 8000000 in
theorem law (a0 : Option Addr) (z0 : List Int) (c0 : Nat) (a1 : Option Addr) (z1 : List Int) (c1 : Nat) (w : World) (hr0 : Bytes w a0 z0) (hl0 : z0.length ≤ 9223372036854775807) (hr1 : Bytes w a1 z1) (hl1 : z1.length ≤ 9223372036854775807) :
    Calls Tryd.prog 8 #[.slice a0 z0.length c0, .slice a1 z1.length c1] w fun e w' => e = .returned (.bool true) ∧ Below w.heap.size w w' := by
  have R0 := Lib.hid hr0
  have R1 := Lib.hid hr1
  clear hr0 hr1
  by_cases hlong : 3000 < z0.length ∨ 3000 < z1.length
  · have HT := Lib.hid (tell_true hlong)
    clear hlong
    go_enter Tryd.func8, Tryd.ntmps8
    go_wp2_with fail
    refine (a2Long_any a0 a1 z0 z1 c0 c1 w).mono ?_
    rintro e w' ⟨rfl, rfl⟩
    rw [HT.out]
    go_wp2_with fail
    go_ret
    exact ⟨rfl, Below.refl _ _⟩
  have HT := Lib.hid (tell_false hlong)
  have s0 : z0.length ≤ 3000 := by omega
  have s1 : z1.length ≤ 3000 := by omega
  clear hlong
  obtain ⟨i0, hi, hz0, hz1, hz2⟩ := info_parts Tryd.infoInt64
  go_enter Tryd.func8, Tryd.ntmps8
  go_wp2_with fail
  refine (a2Long_any a0 a1 z0 z1 c0 c1 w).mono ?_
  rintro e w' ⟨rfl, rfl⟩
  rw [HT.out]
  have HBW := Lib.hid (Below.refl w.heap.size w)
  go_wp2_with fail
  refine (a2At_any a0 z0 c0 0 4 w R0.out s0 (by omega) (by omega) (by omega)).mono ?_
  rintro e w' ⟨rfl, rfl⟩
  obtain ⟨h90, h91⟩ := atOf_range z0 0 (n := 4) (by omega)
  obtain ⟨k, hj⟩ : ∃ j : Nat, atOf z0 0 4 = (j : Int) := ⟨(atOf z0 0 4).toNat, by omega⟩
  rw [hj] at h90 h91 ⊢
  have kb : (k : Int) < 4 := h91
  clear hj h90 h91
  go_wp2_with fail
  obtain ⟨M, hM⟩ : ∃ M, M = k + 1 := ⟨_, rfl⟩
  rw [show (1 : Int) + (k : Int) = (M : Int) by omega]
  have m1 : 1 ≤ M := by omega
  have m4 : M ≤ 4 := by omega
  have k6 : k ≤ 6 := by omega
  have k3 : k ≤ 3 := by omega
  have m7 : M ≤ 7 := by omega
  have HM := Lib.hid hM
  clear hM kb
  refine (A2FamilyOf_any a0 z0 c0 M w R0.out s0 m1 m7).mono ?_
  rintro e w1 ⟨⟨fa, fz, fc, rfl, hok, hr⟩, hb⟩
  replace R0 := Lib.hid (R0.out.step hb)
  replace R1 := Lib.hid (R1.out.step hb)
  replace HBW := Lib.hid (chain HBW.out hb)
  have HOF := Lib.hid hok
  have HRF := Lib.hid hr
  clear hb hok hr
  have hba := al_b w1 (.cells #[.int .i64 (M : Nat), .slice fa fz.length fc] 26)
  have hx : Boxes (w1.alloc (.cells #[.int .i64 (M : Nat), .slice fa fz.length fc] 26)) w1.heap.size 26 #[.int .i64 (M : Nat), .slice fa fz.length fc] := World.alloc_heap_new _ _
  go_wp2_with fail
  replace R0 := Lib.hid (R0.out.step hba)
  replace R1 := Lib.hid (R1.out.step hba)
  replace HRF := Lib.hid (HRF.out.step hba)
  replace HBW := Lib.hid (chain HBW.out hba)
  have HXF := Lib.hid hx
  clear hba hx
  generalize w1.alloc (.cells #[.int .i64 (M : Nat), .slice fa fz.length fc] 26) = w2 at *
  generalize w1.heap.size = Fo at *
  have aF0 := HXF.out.c0
  have aF1 := HXF.out.c1
  have aFl := HXF.out.lt
  refine (a2At_any a1 z1 c1 0 4 w2 R1.out s1 (by omega) (by omega) (by omega)).mono ?_
  rintro e w' ⟨rfl, rfl⟩
  obtain ⟨h90, h91⟩ := atOf_range z1 0 (n := 4) (by omega)
  obtain ⟨k2, hj⟩ : ∃ j : Nat, atOf z1 0 4 = (j : Int) := ⟨(atOf z1 0 4).toNat, by omega⟩
  rw [hj] at h90 h91 ⊢
  have k2b : (k2 : Int) < 4 := h91
  clear hj h90 h91
  go_wp2_with fail
  obtain ⟨N, hN⟩ : ∃ N, N = k2 + 1 := ⟨_, rfl⟩
  rw [show (1 : Int) + (k2 : Int) = (N : Int) by omega]
  have n1 : 1 ≤ N := by omega
  have n4 : N ≤ 4 := by omega
  have n7 : N ≤ 7 := by omega
  clear hN k2b
  refine (A2FamilyOf_any a1 z1 c1 N w2 R1.out s1 n1 n7).mono ?_
  rintro e w3 ⟨⟨ga, gz, gc, rfl, hok, hr⟩, hb⟩
  clear aF0 aF1 aFl
  replace R0 := Lib.hid (R0.out.step hb)
  replace R1 := Lib.hid (R1.out.step hb)
  replace HRF := Lib.hid (HRF.out.step hb)
  replace HXF := Lib.hid (HXF.out.step hb)
  replace HBW := Lib.hid (chain HBW.out hb)
  have HOG := Lib.hid hok
  have HRG := Lib.hid hr
  clear hb hok hr
  have hba := al_b w3 (.cells #[.int .i64 (N : Nat), .slice ga gz.length gc] 26)
  have hx : Boxes (w3.alloc (.cells #[.int .i64 (N : Nat), .slice ga gz.length gc] 26)) w3.heap.size 26 #[.int .i64 (N : Nat), .slice ga gz.length gc] := World.alloc_heap_new _ _
  have aF0 := HXF.out.c0
  have aF1 := HXF.out.c1
  have aFl := HXF.out.lt
  go_wp2_with fail
  clear aF0 aF1 aFl
  replace R0 := Lib.hid (R0.out.step hba)
  replace R1 := Lib.hid (R1.out.step hba)
  replace HRF := Lib.hid (HRF.out.step hba)
  replace HXF := Lib.hid (HXF.out.step hba)
  replace HRG := Lib.hid (HRG.out.step hba)
  replace HBW := Lib.hid (chain HBW.out hba)
  have HXG := Lib.hid hx
  clear hba hx
  generalize w3.alloc (.cells #[.int .i64 (N : Nat), .slice ga gz.length gc] 26) = w4 at *
  generalize w3.heap.size = Go at *
  have aF0 := HXF.out.c0
  have aF1 := HXF.out.c1
  have aFl := HXF.out.lt
  have aG0 := HXG.out.c0
  have aG1 := HXG.out.c1
  have aGl := HXG.out.lt
  refine (a2At_any a0 z0 c0 1 M w4 R0.out s0 (by omega) (by omega) (by omega)).mono ?_
  rintro e w' ⟨rfl, rfl⟩
  obtain ⟨h90, h91⟩ := atOf_range z0 1 (n := (M : Int)) (by omega)
  obtain ⟨j, hj⟩ : ∃ j : Nat, atOf z0 1 (M : Int) = (j : Int) := ⟨(atOf z0 1 (M : Int)).toNat, by omega⟩
  rw [hj] at h90 h91 ⊢
  have jb : (j : Int) < (M : Int) := h91
  clear hj h90 h91
  have jk : j ≤ k := by have := HM.out; omega
  clear jb
  obtain ⟨t, ht⟩ : ∃ t, t = k + N := ⟨_, rfl⟩
  have t1 : 1 ≤ t := by omega
  have t7 : t ≤ 7 := by omega
  have HT2 := Lib.hid (show k + N = t from ht.symm)
  have q1 : ((t : Int) != (M : Int) - 1 + (N : Int)) = false := by have := HM.out; simp; omega
  have q2 : (M : Int) - 1 + (N : Int) = (t : Int) := by have := HM.out; omega
  have Q2 := Lib.hid q2
  clear ht q2
  go_wp2_with fail
  refine (putG fa fz fc ga gz gc w4 HM.out HT2.out t1 t7 k6 n7 jk HOF.out HOG.out HRF.out HRG.out).mono ?_
  rintro e w5 ⟨⟨pa, pz, pc, rfl, hok, ht, hr⟩, hb⟩
  clear aF0 aF1 aFl aG0 aG1 aGl
  replace R0 := Lib.hid (R0.out.step hb)
  replace R1 := Lib.hid (R1.out.step hb)
  replace HRF := Lib.hid (HRF.out.step hb)
  replace HXF := Lib.hid (HXF.out.step hb)
  replace HRG := Lib.hid (HRG.out.step hb)
  replace HXG := Lib.hid (HXG.out.step hb)
  replace HBW := Lib.hid (chain HBW.out hb)
  have HOP := Lib.hid hok
  have HTP := Lib.hid ht
  have HRP := Lib.hid hr
  clear hb hok ht hr
  have hba := al_b w5 (.cells #[.int .i64 (t : Nat), .slice pa pz.length pc] 26)
  have hx : Boxes (w5.alloc (.cells #[.int .i64 (t : Nat), .slice pa pz.length pc] 26)) w5.heap.size 26 #[.int .i64 (t : Nat), .slice pa pz.length pc] := World.alloc_heap_new _ _
  have aF0 := HXF.out.c0
  have aF1 := HXF.out.c1
  have aFl := HXF.out.lt
  have aG0 := HXG.out.c0
  have aG1 := HXG.out.c1
  have aGl := HXG.out.lt
  go_wp2_with fail
  clear aF0 aF1 aFl aG0 aG1 aGl
  replace R0 := Lib.hid (R0.out.step hba)
  replace R1 := Lib.hid (R1.out.step hba)
  replace HRF := Lib.hid (HRF.out.step hba)
  replace HXF := Lib.hid (HXF.out.step hba)
  replace HRG := Lib.hid (HRG.out.step hba)
  replace HXG := Lib.hid (HXG.out.step hba)
  replace HRP := Lib.hid (HRP.out.step hba)
  replace HBW := Lib.hid (chain HBW.out hba)
  have HXP := Lib.hid hx
  clear hba hx
  generalize w5.alloc (.cells #[.int .i64 (t : Nat), .slice pa pz.length pc] 26) = w6 at *
  generalize w5.heap.size = Po at *
  have aF0 := HXF.out.c0
  have aF1 := HXF.out.c1
  have aFl := HXF.out.lt
  have aG0 := HXG.out.c0
  have aG1 := HXG.out.c1
  have aGl := HXG.out.lt
  have aP0 := HXP.out.c0
  have aP1 := HXP.out.c1
  have aPl := HXP.out.lt
  rw [Q2.out]
  refine (A2Group_any a1 z1 c1 t w6 R1.out s1 t7).mono ?_
  rintro e w7 ⟨⟨x, xa, xc, hx, rfl, hi2⟩, hb⟩
  clear aF0 aF1 aFl aG0 aG1 aGl aP0 aP1 aPl
  replace R0 := Lib.hid (R0.out.step hb)
  replace R1 := Lib.hid (R1.out.step hb)
  replace HRF := Lib.hid (HRF.out.step hb)
  replace HXF := Lib.hid (HXF.out.step hb)
  replace HRG := Lib.hid (HRG.out.step hb)
  replace HXG := Lib.hid (HXG.out.step hb)
  replace HRP := Lib.hid (HRP.out.step hb)
  replace HXP := Lib.hid (HXP.out.step hb)
  replace HBW := Lib.hid (chain HBW.out hb)
  have HX := Lib.hid hx
  have HI := Lib.hid hi2
  clear hb hx hi2
  have aF0 := HXF.out.c0
  have aF1 := HXF.out.c1
  have aFl := HXF.out.lt
  have aG0 := HXG.out.c0
  have aG1 := HXG.out.c1
  have aGl := HXG.out.lt
  have aP0 := HXP.out.c0
  have aP1 := HXP.out.c1
  have aPl := HXP.out.lt
  go_wp2_with fail
  clear aF0 aF1 aFl aG0 aG1 aGl aP0 aP1 aPl
  have hb0 := (al_b w7 (.cells #[] 2)).alloc (by simp) (.cells #[] 2)
  have hown1 : OwnI ((w7.alloc (.cells #[] 2)).alloc (.cells #[] 2)) w7.heap.size (.slice (some ⟨w7.heap.size, 0, none⟩) ([] : List Int).length 0) [] := OwnI.step (World.ownsRow_made w7 #[] 0 (Nat.le_refl _) (by unfold maxLen; omega) rfl : OwnI (w7.alloc (.cells #[] 2)) w7.heap.size (.slice (some ⟨w7.heap.size, 0, none⟩) 0 0) []) (al_b _ _)
  have hown2 : OwnI ((w7.alloc (.cells #[] 2)).alloc (.cells #[] 2)) w7.heap.size (.slice (some ⟨w7.heap.size + 1, 0, none⟩) ([] : List Int).length 0) [] := by
    have h9 := World.ownsRow_made (w7.alloc (.cells #[] 2)) (base := w7.heap.size) #[] 0 (e := 2) (size := 1) (by simp) (by unfold maxLen; omega) rfl
    simpa [OwnI, vals] using h9
  have HOW1 := Lib.hid hown1
  have HOW2 := Lib.hid hown2
  have HB0 := Lib.hid hb0
  have hsz0 : w7.heap.size + 2 ≤ ((w7.alloc (.cells #[] 2)).alloc (.cells #[] 2)).heap.size := by simp
  clear hown1 hown2 hb0
  have hl7 : (listOf x).length ≤ 7 := listTo_len x 7
  have hx128 : x < 128 := by have := HX.out; have := pow_128 t7; omega
  have HZ := Lib.hid (show ∀ i, i < (listOf x).length → 0 ≤ nth (listOf x) i ∧ nth (listOf x) i ≤ 6 from fun i hi => by
    have := grp_mem (grp_list t7 HX.out) (nth (listOf x) i) (by rw [nth_lt hi]; exact List.getElem_mem _)
    omega)
  have HLO := Lib.hid (put_low k (by omega) x hx128)
  have HHI := Lib.hid (put_high k (by omega) x hx128)
  generalize hzs : listOf x = zs at *
  have HZS := Lib.hid hzs
  clear hzs
  generalize (w7.alloc (.cells #[] 2)).alloc (.cells #[] 2) = wq at *
  go_loopw [12, 13, 14] (fun v1 v2 i wi => ∃ (r g1 c1 g2 c2 : Nat), r ≤ zs.length ∧ i = .int .i64 (r : Nat) ∧ v1 = .slice (some ⟨g1, 0, none⟩) ((zs.take r).filter fun z => decide (z < (k : Int))).length c1 ∧ v2 = .slice (some ⟨g2, 0, none⟩) (((zs.take r).filter fun z => decide ((k : Int) ≤ z)).map fun z => z - (k : Int)).length c2 ∧
      OwnI wi w7.heap.size (.slice (some ⟨g1, 0, none⟩) ((zs.take r).filter fun z => decide (z < (k : Int))).length c1) ((zs.take r).filter fun z => decide (z < (k : Int))) ∧
      OwnI wi w7.heap.size (.slice (some ⟨g2, 0, none⟩) (((zs.take r).filter fun z => decide ((k : Int) ≤ z)).map fun z => z - (k : Int)).length c2) (((zs.take r).filter fun z => decide ((k : Int) ≤ z)).map fun z => z - (k : Int)) ∧ g1 ≠ g2 ∧ g1 < wi.heap.size ∧ g2 < wi.heap.size ∧ Below w7.heap.size w7 wi)
    (fun _ _ i _ => zs.length - (intOf i).toNat)
  case atStart => exact ⟨0, w7.heap.size, 0, w7.heap.size + 1, 0, Nat.zero_le _, rfl, rfl, rfl, HOW1.out, HOW2.out, by omega, by omega, by omega, HB0.out⟩
  case round =>
    obtain ⟨r, g1, c1, g2, c2, hr, rfl, rfl, rfl, ho1, ho2, hne, hg1, hg2, hb⟩ := hrel
    have HO1 := Lib.hid ho1
    have HO2 := Lib.hid ho2
    have HBI := Lib.hid hb
    have HNE := Lib.hid hne
    have HG2 := Lib.hid hg2
    have hsb := hb.size
    have hxf := HXF.out.step hb
    have hxg := HXG.out.step hb
    have hxp := HXP.out.step hb
    have HXFI := Lib.hid hxf
    have HXGI := Lib.hid hxg
    have HXPI := Lib.hid hxp
    have aF0 := hxf.c0
    have aF1 := hxf.c1
    have aFl := hxf.lt
    have hrs := HI.out.step hb
    clear ho1 ho2 hb HOW1 HOW2 HB0 hxf hxg hxp
    by_cases hlt : r < zs.length
    · rcases hrs with h0 | ⟨b2, o2, hab, hc⟩
      · rw [h0] at hlt; exact absurd hlt (Nat.not_lt_zero _)
      cases hab
      have hcell := hc r hlt
      have hcl := World.block_lt_of_cell? _ _ hcell
      have hi0 : (r : Int) < (zs.length : Int) := by omega
      obtain ⟨zz0, zz1⟩ := HZ.out r hlt
      have HTN := Lib.hid (show zs.take (r + 1) = zs.take r ++ [nth zs r] by rw [nth_lt hlt]; exact List.take_succ_eq_append_getElem hlt)
      have hl1 : ((zs.take r).filter fun z => decide (z < (k : Int))).length ≤ 7 := Nat.le_trans (List.length_filter_le _ _) (by rw [List.length_take]; omega)
      have hl2 : (((zs.take r).filter fun z => decide ((k : Int) ≤ z)).map fun z => z - (k : Int)).length ≤ 7 := by rw [List.length_map]; exact Nat.le_trans (List.length_filter_le _ _) (by rw [List.length_take]; omega)
      clear hc
      by_cases hls : nth zs r < (k : Int)
      · have HE1 := Lib.hid (show ((zs.take (r + 1)).filter fun z => decide (z < (k : Int))) = ((zs.take r).filter fun z => decide (z < (k : Int))) ++ [nth zs r] by rw [HTN.out]; simp [List.filter_append, hls])
        have HE2 := Lib.hid (show (((zs.take (r + 1)).filter fun z => decide ((k : Int) ≤ z)).map fun z => z - (k : Int)) = (((zs.take r).filter fun z => decide ((k : Int) ≤ z)).map fun z => z - (k : Int)) by rw [HTN.out]; simp [List.filter_append, hls])
        have hls2 : nth zs r < (M : Int) - 1 := by have := HM.out; omega
        clear hls
        generalize nth zs r = z at *
        obtain ⟨L1, hL1⟩ : ∃ l, ((zs.take r).filter fun z => decide (z < (k : Int))) = l := ⟨_, rfl⟩
        obtain ⟨L2, hL2⟩ : ∃ l, (((zs.take r).filter fun z => decide ((k : Int) ≤ z)).map fun z => z - (k : Int)) = l := ⟨_, rfl⟩
        rw [hL1] at HO1 HE1 hl1 ⊢
        rw [hL2] at HO2 HE2 hl2 ⊢
        clear hL1 hL2
        go_wp2_with fail
        go_quiet (fail)
        have hbd := quiet_below (show Quiet wr (wr.drewN nq) from ⟨_, rfl⟩)
        have HO1D := Lib.hid (HO1.out.step hbd)
        have HO2D := Lib.hid (HO2.out.step hbd)
        have HBD := Lib.hid (HBI.out.trans (hbd.mono hsb))
        have hsd := hbd.size
        have hcell2 := cell_step hbd hcell
        clear hbd hcell aF0 aF1 aFl
        generalize wr.drewN nq = wd at *
        go_wp2_with (at_builtin; refine wpList_append_lies _ rfl _ _ 28 rfl w7.heap.size 2 i0 (.int .i64 0) 1 8 Tryd.underlying28 hi hz0 hz1 hz2 rfl (by decide) _ _ _ rfl (World.ownsRow.alloc HO1D.out _) ⟨wd.heap.size, 0, none⟩ 1 1 [.int .i64 z] rfl rfl (cell_one_new _ _ _) (by simp [Value.oneCell']) (by decide) (by unfold maxLen; omega) (by omega) (by simp; omega) _ rfl ?_; intro g9 cap9 w9 hown9 hgrow9 hat9 hlt9; have HOWN := Lib.hid hown9; have HGROW := Lib.hid (show (wd.alloc (.cells #[.int .i64 z] 2)).grownBy w9 (some g1) from hgrow9); have HAT := Lib.hid (show some g1 = some g9 ∨ g9 = (wd.alloc (.cells #[.int .i64 z] 2)).heap.size from hat9); have HLT9 := Lib.hid hlt9; clear hown9 hgrow9 hat9 hlt9)
        go_wp2_with fail
        have hn1 : OwnI w9 w7.heap.size (.slice (some ⟨g9, 0, none⟩) (L1.length + 1) cap9) (L1 ++ [z]) := by unfold OwnI; rw [vals_snoc, List.length_append]; exact HOWN.out
        have hn2 : OwnI w9 w7.heap.size (.slice (some ⟨g2, 0, none⟩) L2.length c2) L2 := World.ownsRow.kept (World.ownsRow.alloc HO2D.out _) HGROW.out (.inr (by have := HNE.out; simp [Value.ownBlock]; omega))
        have hn3 : g9 ≠ g2 := by
          have h7 := HNE.out
          have h8 := HG2.out
          rcases HAT.out with h | h
          · simp at h; omega
          · simp at h; omega
        have hn4 := HGROW.out.size
        have hn5 : Below w7.heap.size w7 w9 := (HBD.out.alloc (by omega) _).grown HGROW.out (by simp; omega) (fun q hq => (World.ownsRow.lt HO1D.out q (by simpa [Value.ownBlock] using hq)).1)
        simp at hn4
        go_roundw
        case rel => exact ⟨r + 1, g9, cap9, g2, c2, by omega, by go_num, by rw [HE1.out, List.length_append]; rfl, by rw [HE2.out], by rw [HE1.out, List.length_append]; exact hn1, by rw [HE2.out]; exact hn2, hn3, HLT9.out, by omega, hn5⟩
        case measure => simp [intOf]; omega
      · have HE1 := Lib.hid (show ((zs.take (r + 1)).filter fun z => decide (z < (k : Int))) = ((zs.take r).filter fun z => decide (z < (k : Int))) by rw [HTN.out]; simp [List.filter_append, hls])
        have HE2 := Lib.hid (show (((zs.take (r + 1)).filter fun z => decide ((k : Int) ≤ z)).map fun z => z - (k : Int)) = (((zs.take r).filter fun z => decide ((k : Int) ≤ z)).map fun z => z - (k : Int)) ++ [nth zs r - (M : Int) + 1] by
          rw [HTN.out, show nth zs r - (M : Int) + 1 = nth zs r - (k : Int) by have := HM.out; omega]
          simp [List.filter_append, show (k : Int) ≤ nth zs r by omega])
        have hls2 : ¬ nth zs r < (M : Int) - 1 := by have := HM.out; omega
        have HWR := Lib.hid (show IntKind.i64.wrap (IntKind.i64.wrap (nth zs r - (M : Int)) + 1) = nth zs r - (M : Int) + 1 by rw [IntWalk.i64_in (nth zs r - (M : Int)) (by omega), IntWalk.i64_in (nth zs r - (M : Int) + 1) (by omega)])
        clear hls
        generalize nth zs r = z at *
        obtain ⟨L1, hL1⟩ : ∃ l, ((zs.take r).filter fun z => decide (z < (k : Int))) = l := ⟨_, rfl⟩
        obtain ⟨L2, hL2⟩ : ∃ l, (((zs.take r).filter fun z => decide ((k : Int) ≤ z)).map fun z => z - (k : Int)) = l := ⟨_, rfl⟩
        rw [hL1] at HO1 HE1 hl1 ⊢
        rw [hL2] at HO2 HE2 hl2 ⊢
        clear hL1 hL2
        go_wp2_with fail
        go_quiet (fail)
        have hbd := quiet_below (show Quiet wr (wr.drewN nq) from ⟨_, rfl⟩)
        have HO1D := Lib.hid (HO1.out.step hbd)
        have HO2D := Lib.hid (HO2.out.step hbd)
        have HBD := Lib.hid (HBI.out.trans (hbd.mono hsb))
        have hsd := hbd.size
        have hcell2 := cell_step hbd hcell
        have bF0 := cell_step hbd aF0
        have hcl2 : b2 < (wr.drewN nq).heap.size := by omega
        have bFl : Fo < (wr.drewN nq).heap.size := by omega
        clear hbd hcell aF0 aF1 aFl hcl
        generalize wr.drewN nq = wd at *
        go_wp2_with fail
        go_region_law (refine step_append_lies _ (by rfl) _ _ 28 (by rfl) w7.heap.size 2 i0 (.int .i64 0) 1 8 Tryd.underlying28 hi hz0 hz1 hz2 (by rfl) (by decide) (.slice (some ⟨g2, 0, none⟩) L2.length c2) L2.length (vals L2) (by first | rfl | simp [Act.eval]) (by exact World.ownsRow.alloc (HO2D.out.step (drew_step _)) _) ⟨wd.drew.heap.size, 0, none⟩ 1 1 [.int .i64 (z - (M : Int) + 1)] (by first | rfl | simp [Act.eval]) (by rfl) (by first | exact cell_one_new _ _ _ | (intro j u hj; rw [← HWR.out] at hj; exact cell_one_new wd.drew _ _ j u hj)) (by simp [Value.oneCell']) (by decide) (by unfold maxLen; omega) (by omega) (by simp; omega) _ rfl ?_; intro g9 cap9 w9 hown9 hgrow9 hat9 hlt9)
        all_goals (
          have hn2 : OwnI w9 w7.heap.size (.slice (some ⟨g9, 0, none⟩) (L2.length + 1) cap9) (L2 ++ [z - (M : Int) + 1]) := by unfold OwnI; rw [vals_snoc, List.length_append]; exact hown9
          have hn1 : OwnI w9 w7.heap.size (.slice (some ⟨g1, 0, none⟩) L1.length c1) L1 := World.ownsRow.kept (World.ownsRow.alloc (HO1D.out.step (drew_step _)) _) hgrow9 (.inr (by simp [Value.ownBlock]; omega))
          have hn3 : g1 ≠ g9 := by
            rcases hat9 with h | h
            · simp [Value.ownBlock] at h; omega
            · simp at h; omega
          have hn4 := hgrow9.size
          have hn5 : Below w7.heap.size w7 w9 := ((HBD.out.trans ((drew_step wd).mono (by omega))).alloc (by simp; omega) _).grown hgrow9 (by simp; omega) (fun q hq => (World.ownsRow.lt HO2D.out q hq).1)
          simp at hn4
          have HLT9 := Lib.hid hlt9
          clear hown9 hgrow9 hat9 hlt9
          go_wp2_with fail
          go_roundw
          case rel => exact ⟨r + 1, g1, c1, g9, cap9, by omega, by go_num, by rw [HE1.out], by rw [HE2.out, List.length_append]; rfl, by rw [HE1.out]; exact hn1, by rw [HE2.out, List.length_append]; exact hn2, hn3, by omega, HLT9.out, hn5⟩
          case measure => simp [intOf]; omega)
    · have hi0 : ¬ (r : Int) < (zs.length : Int) := by omega
      have hE : zs.take r = zs := List.take_of_length_le (by omega)
      rw [hE, HLO.out] at HO1
      rw [hE, HHI.out] at HO2
      rw [hE, HLO.out, HHI.out]
      have HIO := Lib.hid (Ints_of_own HO1.out)
      have HII := Lib.hid (Ints_of_own HO2.out)
      have hbs := HBI.out
      clear hE HO1 HO2 hrs aF0 aF1 aFl HXFI HXGI HXPI
      have e := HZS.out
      subst e
      replace R0 := Lib.hid (R0.out.step hbs)
      replace R1 := Lib.hid (R1.out.step hbs)
      replace HRF := Lib.hid (HRF.out.step hbs)
      replace HXF := Lib.hid (HXF.out.step hbs)
      replace HRG := Lib.hid (HRG.out.step hbs)
      replace HXG := Lib.hid (HXG.out.step hbs)
      replace HRP := Lib.hid (HRP.out.step hbs)
      replace HXP := Lib.hid (HXP.out.step hbs)
      replace HI := Lib.hid (HI.out.step hbs)
      replace HBW := Lib.hid (chain HBW.out hbs)
      clear hbs HBI
      have HL2 := Lib.hid (show lowN k x < 2 ^ k from low_lt k (by omega) x hx128)
      have HD2 := Lib.hid (show x / 2 ^ k < 2 ^ N from div_lt HT2.out HX.out)
      obtain ⟨bo, hbo⟩ : ∃ b, tblAt gz gz.length (x / 2 ^ k) = b := ⟨_, rfl⟩
      obtain ⟨bw, hbw⟩ : ∃ b, tblAt fz fz.length (minN bo j (lowN k x)) = b := ⟨_, rfl⟩
      have HBO := Lib.hid hbo
      have HBB := Lib.hid hbw
      have HW0 := Lib.hid (show minN bo j (lowN k x) < 2 ^ M by
        have := minN_lt (m := M) (k := j) (x := lowN k x) bo m7 (by have := HM.out; omega) (by have := HL2.out; rw [HM.out]; simpa using this)
        exact this)
      clear hbo hbw
      have aF0 := HXF.out.c0
      have aF1 := HXF.out.c1
      have aFl := HXF.out.lt
      have aG0 := HXG.out.c0
      have aG1 := HXG.out.c1
      have aGl := HXG.out.lt
      have aP0 := HXP.out.c0
      have aP1 := HXP.out.c1
      have aPl := HXP.out.lt
      go_wp2_with fail
      refine (mayX ga gz gc (some ⟨g2, 0, none⟩) c2 wr n7 HD2.out HOG.out HRG.out HII.out).mono ?_
      rintro e w8 ⟨rfl, hb⟩
      clear aF0 aF1 aFl aG0 aG1 aGl aP0 aP1 aPl
      replace R0 := Lib.hid (R0.out.step hb)
      replace R1 := Lib.hid (R1.out.step hb)
      replace HRF := Lib.hid (HRF.out.step hb)
      replace HXF := Lib.hid (HXF.out.step hb)
      replace HRG := Lib.hid (HRG.out.step hb)
      replace HXG := Lib.hid (HXG.out.step hb)
      replace HRP := Lib.hid (HRP.out.step hb)
      replace HXP := Lib.hid (HXP.out.step hb)
      replace HI := Lib.hid (HI.out.step hb)
      replace HIO := Lib.hid (HIO.out.step hb)
      replace HII := Lib.hid (HII.out.step hb)
      replace HBW := Lib.hid (chain HBW.out hb)
      clear hb
      rw [HBO.out]
      have aF0 := HXF.out.c0
      have aF1 := HXF.out.c1
      have aFl := HXF.out.lt
      have aG0 := HXG.out.c0
      have aG1 := HXG.out.c1
      have aGl := HXG.out.lt
      have aP0 := HXP.out.c0
      have aP1 := HXP.out.c1
      have aPl := HXP.out.lt
      go_wp2_with fail
      have MK := Lib.hid (show ∀ w' : World, Below w8.heap.size w8 w' → Below w8.heap.size w8 w' ∧ w'.cell? ⟨Fo, 0, none⟩ = some (.int .i64 (M : Nat)) ∧ w'.cell? ⟨Fo, 1, none⟩ = some (.slice fa fz.length fc) from fun w' hw => ⟨hw, cell_step hw aF0, cell_step hw aF1⟩)
      go_region_held3 (fun w' => Below w8.heap.size w8 w' ∧ w'.cell? ⟨Fo, 0, none⟩ = some (.int .i64 (M : Nat)) ∧ w'.cell? ⟨Fo, 1, none⟩ = some (.slice fa fz.length fc)) (first | exact MK.out _ (drew_step _) | exact MK.out _ (chain (‹Below w8.heap.size w8 _ ∧ _›).1 hb) | fail) (first
        | (go_at_call 29; have KK := (‹Below w8.heap.size w8 _ ∧ _›).1; refine (a2Wide_b bo (some ⟨g1, 0, none⟩) (lowN k x) c1 j k _ (HIO.out.step KK) HL2.out k6 jk).mono ?_; rintro e wh ⟨⟨vh, rfl, hvh⟩, hb⟩; obtain ⟨ah, ch, rfl, hih, -⟩ := hvh.ints; have HIH := Lib.hid hih; clear hvh hih KK)
        | (go_at_call 14; have KK := (‹Below w8.heap.size w8 _ ∧ _›).1; refine (mayX fa fz fc _ _ _ m7 HW0.out HOF.out (HRF.out.step KK) HIH.out).mono ?_; rintro e wg ⟨rfl, hb⟩; rw [HBB.out]; clear KK))
      clear aF0 aF1 aFl aG0 aG1 aGl aP0 aP1 aPl
      all_goals (
        have hb := (‹Below w8.heap.size w8 wg ∧ _›).1
        replace R0 := Lib.hid (R0.out.step hb)
        replace R1 := Lib.hid (R1.out.step hb)
        replace HRF := Lib.hid (HRF.out.step hb)
        replace HXF := Lib.hid (HXF.out.step hb)
        replace HRG := Lib.hid (HRG.out.step hb)
        replace HXG := Lib.hid (HXG.out.step hb)
        replace HRP := Lib.hid (HRP.out.step hb)
        replace HXP := Lib.hid (HXP.out.step hb)
        replace HI := Lib.hid (HI.out.step hb)
        replace HIO := Lib.hid (HIO.out.step hb)
        replace HII := Lib.hid (HII.out.step hb)
        replace HBW := Lib.hid (chain HBW.out hb)
        clear hb
        have aF0 := HXF.out.c0
        have aF1 := HXF.out.c1
        have aFl := HXF.out.lt
        have aG0 := HXG.out.c0
        have aG1 := HXG.out.c1
        have aGl := HXG.out.lt
        have aP0 := HXP.out.c0
        have aP1 := HXP.out.c1
        have aPl := HXP.out.lt
        go_wp2_with fail
        refine (mayX pa pz pc xa xc wg t7 HX.out HOP.out HRP.out HI.out).mono ?_
        rintro e w9 ⟨rfl, hb⟩
        clear aF0 aF1 aFl aG0 aG1 aGl aP0 aP1 aPl
        replace R0 := Lib.hid (R0.out.step hb)
        replace R1 := Lib.hid (R1.out.step hb)
        replace HRF := Lib.hid (HRF.out.step hb)
        replace HXF := Lib.hid (HXF.out.step hb)
        replace HRG := Lib.hid (HRG.out.step hb)
        replace HXG := Lib.hid (HXG.out.step hb)
        replace HRP := Lib.hid (HRP.out.step hb)
        replace HXP := Lib.hid (HXP.out.step hb)
        replace HI := Lib.hid (HI.out.step hb)
        replace HIO := Lib.hid (HIO.out.step hb)
        replace HII := Lib.hid (HII.out.step hb)
        replace HBW := Lib.hid (chain HBW.out hb)
        clear hb
        rw [show tblAt pz pz.length x = bw by
          rw [HTP.out x HX.out]
          unfold putB putN
          rw [HBO.out]
          exact HBB.out]
        have aF0 := HXF.out.c0
        have aF1 := HXF.out.c1
        have aFl := HXF.out.lt
        have aG0 := HXG.out.c0
        have aG1 := HXG.out.c1
        have aGl := HXG.out.lt
        have aP0 := HXP.out.c0
        have aP1 := HXP.out.c1
        have aPl := HXP.out.lt
        go_wp2_with fail
        go_ret
        exact ⟨rfl, HBW.out⟩)

end PutL
end Go.Proofs.YteifllengcacbaaDoor

namespace Go.Proofs.YteifllengcacbaaDoor
open Go.ChangeShapes Go.WideShapes Go.ChangeAt Go.RowKit Go.Deep
set_option linter.unusedVariables false
namespace PutL


theorem door_met (os : Os) (args : Array Value) : laidMetH Tryd.prog Rows.fnPutRow.laid ((World.doorLaid Tryd.prog 62 os).forCall (fun _ _ => 0) ⟨#[], args, []⟩).memory :=
  laidMetH_of_parts3 (fuel := 8) (laidMet_of_run' 8 (by kernel_rfl) (by kernel_rfl)) (by kernel_rfl) (by kernel_rfl)

set_option maxRecDepth 100000 in
set_option maxHeartbeats 100000000 in
theorem lifted (os : Os) (started : os.Started) (H : Type) (enc : TypeId × Value → H) :
    ReturnsInHanded {} Tryd.checked os 8 .any (fun w args => (Rows.fnPutSpec.pre enc Tryd.prog Tryd.f8 [] false w args ∧ laidMetH Tryd.prog Rows.fnPutRow.laid w) ∧ sizedMet enc Tryd.prog Tryd.f8 (OpenSpec.ofChange Rows.fnPutSpec) false w args)
      (Rows.fnPutSpec.post enc Tryd.prog Tryd.f8 false true false false) := by
  refine returnsInHanded_of_change_and (C := Tryd.checked) (X := fun w _ => laidMetH Tryd.prog Rows.fnPutRow.laid w) (fun _ _ _ hh h => h.of_heap hh) CardP.own started (by kernel_rfl) Tryd.func8
    (ChangeSpec.witness_shaped (enc := enc) (C := Tryd.checked) (os := os) (X := fun w _ => laidMetH Tryd.prog Rows.fnPutRow.laid w) false (World.doorLaid Tryd.prog 62 os) #[.slice none 0 0, .slice none 0 0] 8 rfl (World.shaped_of_RefB (by kernel_rfl) (by kernel_rfl)) (by kernel_rfl) (by kernel_rfl) (by kernel_rfl) (door_met os _)) ?_
  intro W base args ds gs before hval0 hW _ _ hL _
  have hval : ∀ (j : Nat) t v, Tryd.f8.params[j]? = some t → args[j]? = some v → Value.okWide Tryd.prog W .any base t v := hval0
  have hW' := hW
  obtain ⟨p, q, hA0, hV, rfl, hfz, hnd⟩ := hW
  have hA : DataW.TrodAll enc Tryd.prog W 0 (fun _ => true) true Tryd.f8.params.toList args.toList ds p := hA0
  rw [Tryd.params8] at hA hval
  obtain ⟨v0, vs0, d0, ds0, p0, q0, hargs, rfl, rfl, h0, r0⟩ := trodAll_cons hA
  obtain ⟨v1, vs1, d1, ds1, p1, q1, rfl, rfl, rfl, h1, r1⟩ := trodAll_cons r0
  obtain ⟨rfl, rfl, rfl⟩ := trodAll_nil r1
  obtain rfl : args = #[v0, v1] := by cases args; simp_all
  obtain ⟨rfl, rfl⟩ := trodVars_none hV
  have k0 := h0
  have lt0 : ∀ x ∈ p0, x.block < W.heap.size := by obtain ⟨m, hm⟩ := k0; exact DataW.trod_lt m _ _ _ hm
  obtain ⟨a0, len0, c0, rfl⟩ := okWide_slice Tryd.underlying22 (hval 0 22 v0 rfl rfl)
  obtain ⟨fuel0, hf0⟩ := h0
  obtain ⟨z0, rfl, rr0, ll0⟩ := open_bytes1 (by simpa [Value.cells] using hf0)
  have k1 := h1
  have lt1 : ∀ x ∈ p1, x.block < W.heap.size := by obtain ⟨m, hm⟩ := k1; exact DataW.trod_lt m _ _ _ hm
  obtain ⟨a1, len1, c1, rfl⟩ := okWide_slice Tryd.underlying22 (hval 1 22 v1 rfl rfl)
  obtain ⟨fuel1, hf1⟩ := h1
  obtain ⟨z1, rfl, rr1, ll1⟩ := open_bytes1 (by simpa [Value.cells] using hf1)
  clear hA0 hval0
  refine (law a0 z0 c0 a1 z1 c1 W rr0 ll0 rr1 ll1).mono fun e W' ⟨he, bel⟩ => ?_
  subst he
  exact ⟨_, rfl, _, _, _, [], _, [], hW', trodAll_mk1 (shut_bool Tryd.underlying4 _), (trodAll_cons_mk (Below.trod CardP.laidOut (by kernel_rfl) (of_decide_eq_true (by kernel_rfl)) k0 bel lt0) (trodAll_cons_mk (Below.trod CardP.laidOut (by kernel_rfl) (of_decide_eq_true (by kernel_rfl)) k1 bel lt1) trodAll_mk0)), rfl, bel.frame _, fun h => by cases h⟩


end PutL
end Go.Proofs.YteifllengcacbaaDoor

namespace Go.Proofs.YteifllengcacbaaDoor
open Go.ChangeShapes Go.WideShapes Go.ChangeAt Go.RowKit Go.Deep
set_option linter.unusedVariables false
namespace PutL

theorem over : Rows.fnPutRow.holds Tryd.pinned (OpenSpec.ofChange Rows.fnPutSpec) :=
  OpenClaim.holds_of_wide 8 Tryd.f8 rfl rfl rfl rfl rfl rfl rfl ⟨rfl, rfl, rfl, rfl, rfl⟩ rfl rfl rfl rfl rfl (by kernel_rfl) Tryd.func8 closed
    (of_decide_eq_true (by kernel_rfl)) (by unfold Func.isWrapper; first | (rw [if_pos (by decide +kernel)]; kernel_rfl) | (rw [if_neg (by decide +kernel)]; exact ⟨rfl, rfl⟩))
    (fun os started H enc _ => lifted os started H enc)

theorem said : Rows.FnPutSaid := over

end PutL
end Go.Proofs.YteifllengcacbaaDoor

namespace Go.Proofs.YteifllengcacbaaDoor
open Go.ChangeShapes Go.WideShapes Go.ChangeAt Go.RowKit Go.Deep
set_option linter.unusedVariables false
namespace PutL

theorem plain (f : FuncId) (fn : Func) (hf : Tryd.pinned.checked.prog.funcNamed "loop.example/g01117/laws.FnPut" = some f) (hfn : Tryd.pinned.checked.prog.funcs[f]? = some fn) :
    false = Tryd.pinned.checked.prog.looks [] ∧ ∀ (j : Nat) t, fn.params[j]? = some t → Tryd.pinned.checked.prog.wantsStandIn t = false := by
  obtain rfl : f = 8 := Option.some.inj (c_named.symm.trans hf) |>.symm
  obtain rfl : fn = Tryd.f8 := (Option.some.inj (Tryd.func8.symm.trans hfn)).symm
  refine ⟨CardP.looks, fun j t ht => ?_⟩
  rw [Tryd.params8] at ht
  have hm : t ∈ [22, 22] := by simpa using Array.mem_of_getElem? ht
  have hall := c_stand
  exact (show Tryd.prog.wantsStandIn t = false by simpa using List.all_eq_true.1 hall t hm)

theorem card : Rows.FnPutCardSaid :=
  Claim7.holds_tied_plain_at .later [] _ _ _ _ said (fun _ h => by cases h) c_wf (fun _ h => by cases h) fnPut_row_tie rfl ⟨rfl, rfl⟩ c_main rfl plain c_goes

end PutL
end Go.Proofs.YteifllengcacbaaDoor

/- 'laws.FnWorth': for all arguments the program's function gives what the model gives, and writes into nothing that it was given. Tied to the program's text: what the library's tables hold. No other condition. -/
import Derived.Test.YteifllengcacbaaDoorRows
import Derived.JoinedOf
import Derived.SevenTiedAt
import Derived.Test.YteifllengcacbaaDoorCards
import Derived.Test.YteifllengcacbaaDoorWts
import Derived.Test.YteifllengcacbaaDoorFw
import Derived.Test.YteifllengcacbaaDoorFgZ
import Derived.Test.YteifllengcacbaaDoorDualI
import Derived.Test.YteifllengcacbaaDoorRound
import Derived.BigQuiet
import Derived.Test.YteifllengcacbaaDoorCntI
import Derived.RangeFuncWrites
import Derived.Test.YteifllengcacbaaDoorMark2
import Derived.Laws.OwnMore
import Derived.Test.YteifllengcacbaaDoorGb
import Derived.Test.YteifllengcacbaaDoorOg
import Derived.Test.YteifllengcacbaaDoorNeed
import Derived.Test.YteifllengcacbaaDoorSwgI
import Derived.Deep.RegionHeld3
import Derived.Test.YteifllengcacbaaDoorOpen
import Derived.LaidHandle
import Derived.LaidLaws
import Derived.LaidMore
import Derived.Test.YteifllengcacbaaDoorTie
namespace Go.Proofs.YteifllengcacbaaDoor
namespace CardP
set_option maxRecDepth 1000000
set_option maxHeartbeats 100000000
theorem own : ownKnob Tryd.prog.godebug = none := by kernel_rfl
theorem laidOut : laidOutB Tryd.prog = true := by kernel_rfl
theorem rowed : mapsRowed Tryd.prog = true := by kernel_rfl
theorem heard : Tryd.prog.stopsHeard = true := by kernel_rfl
theorem enter : Tryd.prog.mayEnter = true := by kernel_rfl
theorem looks : false = Tryd.prog.looks [] := by kernel_rfl
end CardP
end Go.Proofs.YteifllengcacbaaDoor

namespace Go.Proofs.YteifllengcacbaaDoor
namespace Worth
set_option maxRecDepth 1000000 in
set_option maxHeartbeats 100000000 in
theorem closed : joinedFacts Tryd.pinned.checked.prog 9 Tryd.f9 Rows.fnWorthSpec Rows.fnWorthRow = true := by
  rw [joinedFacts]
  simp only [Bool.and_eq_true]
  repeat' apply And.intro
  · as_aux_lemma => kernel_rfl
  · exact CardP.laidOut
  · exact CardP.rowed
  · as_aux_lemma => kernel_rfl
  · as_aux_lemma => kernel_rfl
  · as_aux_lemma => kernel_rfl
  · as_aux_lemma => kernel_rfl
  · as_aux_lemma => kernel_rfl
  · as_aux_lemma => kernel_rfl
  · as_aux_lemma => kernel_rfl
  · as_aux_lemma => kernel_rfl
  · as_aux_lemma => kernel_rfl
  · as_aux_lemma => kernel_rfl
  · as_aux_lemma => kernel_rfl
  · as_aux_lemma => kernel_rfl
  · as_aux_lemma => kernel_rfl
  · as_aux_lemma => kernel_rfl
  · as_aux_lemma => kernel_rfl
  · as_aux_lemma => kernel_rfl
  · as_aux_lemma => kernel_rfl
  · as_aux_lemma => kernel_rfl
  · as_aux_lemma => kernel_rfl
  · as_aux_lemma => kernel_rfl
  · as_aux_lemma => kernel_rfl
  · exact CardP.heard
  · exact CardP.enter
  · as_aux_lemma => kernel_rfl
  · as_aux_lemma => kernel_rfl
  · as_aux_lemma => kernel_rfl
  · as_aux_lemma => kernel_rfl
  · as_aux_lemma => kernel_rfl
  · as_aux_lemma => kernel_rfl
end Worth
end Go.Proofs.YteifllengcacbaaDoor

namespace Go.Proofs.YteifllengcacbaaDoor
namespace Worth
set_option maxRecDepth 1000000
set_option maxHeartbeats 100000000
theorem c_named : Tryd.prog.funcNamed "loop.example/g01117/laws.FnWorth" = some 9 := by kernel_rfl
theorem c_stand : ([22, 22].all fun u => !Tryd.prog.wantsStandIn u) = true := by kernel_rfl
theorem c_wf : Rows.fnWorthRow.wfByText (OpenSpec.ofChange Rows.fnWorthSpec) = true := by kernel_rfl
theorem c_main : Tryd.pinned.checked.prog.mainIs = some (true, "6e409f8567a90cbadb9cb177e9d24eb4bf8a9e643d41676aabbeec681e6929fc".toList) := by kernel_rfl
theorem c_goes : false = Rows.fnWorthRow.goesBy Tryd.pinned.checked.prog := by kernel_rfl
end Worth
end Go.Proofs.YteifllengcacbaaDoor

namespace Go.Proofs.YteifllengcacbaaDoor
open Go.RowKit Go.Deep Go.Shelf
set_option linter.unusedVariables false

def ThrOk (n k : Int) : Prop := (1 ≤ n ∧ n ≤ 7) ∧ 0 ≤ k ∧ k ≤ n + 1
noncomputable def thrOf (n k : Int) : FR := if tell (ThrOk n k) = true then ⟨n, famOf n.toNat (fun x => decide (k ≤ ((listOf x).length : Nat))), 0⟩ else noFam 2
theorem thrOf_yes {n k : Int} (h : ThrOk n k) : thrOf n k = ⟨n, famOf n.toNat (fun x => decide (k ≤ ((listOf x).length : Nat))), 0⟩ := by rw [thrOf, if_pos (tell_true h)]
theorem thrOf_no {n k : Int} (h : ¬ ThrOk n k) : thrOf n k = noFam 2 := by rw [thrOf, if_neg (by rw [tell_false h]; simp)]

def WtdOk (zs : List Int) (quota : Int) : Prop := (1 ≤ zs.length ∧ zs.length ≤ 7) ∧ (0 ≤ quota ∧ quota ≤ 7001) ∧ ∀ i, i < zs.length → 0 ≤ nth zs i ∧ nth zs i ≤ 1000
noncomputable def wtdOf (zs : List Int) (quota : Int) : FR := if tell (WtdOk zs quota) = true then ⟨(zs.length : Nat), famOf zs.length (heavy zs quota), 0⟩ else noFam 2
theorem wtdOf_yes {zs : List Int} {k : Int} (h : WtdOk zs k) : wtdOf zs k = ⟨(zs.length : Nat), famOf zs.length (heavy zs k), 0⟩ := by rw [wtdOf, if_pos (tell_true h)]
theorem wtdOf_no {zs : List Int} {k : Int} (h : ¬ WtdOk zs k) : wtdOf zs k = noFam 2 := by rw [wtdOf, if_neg (by rw [tell_false h]; simp)]

theorem ones_fact : ∀ n : Fin 8, ∀ x : Fin 128, x.val < 2 ^ n.val → wsum (List.replicate n.val 1) x.val n.val = ((listOf x.val).length : Nat) := by decide +kernel
theorem famOf_ones {n : Nat} (h7 : n ≤ 7) (k : Int) : famOf (List.replicate n (1 : Int)).length (heavy (List.replicate n 1) k) = famOf n (fun x => decide (k ≤ ((listOf x).length : Nat))) := by
  rw [List.length_replicate]
  refine famOf_congr h7 fun y hy => ?_
  have hy7 : y < 128 := Nat.lt_of_lt_of_le hy (Nat.pow_le_pow_right (by decide) h7 : 2 ^ n ≤ 2 ^ 7)
  unfold heavy
  rw [List.length_replicate, ones_fact ⟨n, by omega⟩ ⟨y, hy7⟩ hy]

theorem rep_snoc (k : Nat) : vals (List.replicate (k + 1) 1) = vals (List.replicate k 1) ++ [.int .i64 1] := by
  rw [List.replicate_succ']; simp [vals]

end Go.Proofs.YteifllengcacbaaDoor

namespace Go.Proofs.YteifllengcacbaaDoor
open Go.RowKit Go.Deep Go.Shelf
set_option linter.unusedVariables false

theorem famWhere_any (h : Nat) (fid : FuncId) (cl cr : Array Value) (p : Nat → Bool) (w : World) (h1 : 1 ≤ h) (h7 : h ≤ 7) (hC : Chooses w fid cl cr p) :
    Calls Tryd.prog 51 #[.int .i64 (h : Nat), .func (.func fid) cl cr] w (GivesFam w h (famOf h p)) := by
  rw [← famOf_seen h7]
  exact familyWhere_any h fid cl cr p w h1 h7 hC

set_option maxRecDepth 100000 in
theorem thr_chooses (B : Nat) (k : Int) (w : World) (hc : w.cell? ⟨B, 0, none⟩ = some (.int .i64 k)) : Chooses w 74 #[] #[.pointer (some ⟨B, 0, none⟩)] (fun x => decide (k ≤ ((listOf x).length : Nat))) := by
  refine ⟨enters_of Tryd.func74 (by kernel_rfl) rfl, fun x W hb => ?_⟩
  have hx := x.isLt
  have hcW := cell_step hb hc
  clear hb hc
  show Calls Tryd.prog 74 #[.int .u64 (x.val : Int), .pointer (some ⟨B, 0, none⟩)] W _
  generalize x.val = y at *
  go_enter Tryd.func74, Tryd.ntmps74
  go_wp2
  go_quiet ((go_at_call 70; exact Calls.quiet_of_same (swapped (size_any y _ hx))))
  go_wp2
  go_ret
  exact ⟨rfl, quiet_below ⟨_, rfl⟩⟩

set_option maxHeartbeats 600000 in
set_option maxRecDepth 100000 in
theorem implThr_any (n k : Int) (w : World) : Calls Tryd.prog 39 #[.int .i64 n, .int .i64 k] w (GivesFO w (thrOf n k)) := by
  by_cases c1 : n < 1
  · have HV := Lib.hid (thrOf_no (n := n) (k := k) fun h => by have := h.1; omega)
    go_enter Tryd.func39, Tryd.ntmps39
    go_wp2_with fail
    refine bodyPost_ret (v := .tuple #[.agg #[.int .i64 0, .slice none 0 0], .int .i64 2]) (by simp [results, Tryd.results39, go_sem]) rfl ?_
    rw [HV.out]
    exact GivesFO.no _ (by go_grown)
  · by_cases c2 : 7 < n
    · have HV := Lib.hid (thrOf_no (n := n) (k := k) fun h => by have := h.1; omega)
      go_enter Tryd.func39, Tryd.ntmps39
      go_wp2_with fail
      refine bodyPost_ret (v := .tuple #[.agg #[.int .i64 0, .slice none 0 0], .int .i64 2]) (by simp [results, Tryd.results39, go_sem]) rfl ?_
      rw [HV.out]
      exact GivesFO.no _ (by go_grown)
    · have n1 : 1 ≤ n := by omega
      have n7 : n ≤ 7 := by omega
      clear c1 c2
      by_cases c3 : k < 0
      · have HV := Lib.hid (thrOf_no (n := n) (k := k) fun h => by have := h.2; omega)
        go_enter Tryd.func39, Tryd.ntmps39
        go_wp2_with fail
        refine bodyPost_ret (v := .tuple #[.agg #[.int .i64 0, .slice none 0 0], .int .i64 2]) (by simp [results, Tryd.results39, go_sem]) rfl ?_
        rw [HV.out]
        exact GivesFO.no _ (by go_grown)
      · by_cases c4 : n + 1 < k
        · have HV := Lib.hid (thrOf_no (n := n) (k := k) fun h => by have := h.2; omega)
          have k0 : 0 ≤ k := by omega
          clear c3
          go_enter Tryd.func39, Tryd.ntmps39
          go_wp2_with fail
          refine bodyPost_ret (v := .tuple #[.agg #[.int .i64 0, .slice none 0 0], .int .i64 2]) (by simp [results, Tryd.results39, go_sem]) rfl ?_
          rw [HV.out]
          exact GivesFO.no _ (by go_grown)
        · have HV := Lib.hid (thrOf_yes (n := n) (k := k) ⟨⟨n1, n7⟩, by omega, by omega⟩)
          have k0 : 0 ≤ k := by omega
          have k1 : k ≤ n + 1 := by omega
          obtain ⟨m, rfl⟩ : ∃ m : Nat, n = (m : Int) := ⟨n.toNat, by omega⟩
          clear c3 c4
          go_enter Tryd.func39, Tryd.ntmps39
          go_wp2_with fail
          have hB0 := ((Below.refl w.heap.size w).alloc (Nat.le_refl _) (.cells #[.int .i64 k] 2)).alloc (by simp) (.cells #[.int .i64 0, .slice none 0 0] 26)
          have hF0 : ((w.alloc (.cells #[.int .i64 k] 2)).alloc (.cells #[.int .i64 0, .slice none 0 0] 26)).heap[w.heap.size + 1]? = some (.cells #[.int .i64 0, .slice none 0 0] 26) := by
            have := World.alloc_heap_new (w.alloc (.cells #[.int .i64 k] 2)) (.cells #[.int .i64 0, .slice none 0 0] 26)
            rwa [World.size_alloc] at this
          have hK0 : ((w.alloc (.cells #[.int .i64 k] 2)).alloc (.cells #[.int .i64 0, .slice none 0 0] 26)).cell? ⟨w.heap.size, 0, none⟩ = some (.int .i64 k) := by simp [go_sem]
          have hZ0 : ((w.alloc (.cells #[.int .i64 k] 2)).alloc (.cells #[.int .i64 0, .slice none 0 0] 26)).heap.size = w.heap.size + 2 := by simp
          generalize ((w.alloc (.cells #[.int .i64 k] 2)).alloc (.cells #[.int .i64 0, .slice none 0 0] 26)) = w1 at *
          refine (famWhere_any m _ #[] #[.pointer (some ⟨w.heap.size, 0, none⟩)] _ w1 (by omega) (by omega) (thr_chooses w.heap.size k w1 hK0)).mono ?_
          rintro e w2 ⟨⟨v, us, rfl, hrow, hrows⟩, hb⟩
          obtain ⟨va, vc, rfl⟩ := rowForm hrow
          have hf' := (hb.block (w.heap.size + 1) (by omega)).trans hF0
          have c0 : w2.cell? ⟨w.heap.size + 1, 0, none⟩ = some (.int .i64 0) := by simp [World.cell?, hf']
          have c1 : w2.cell? ⟨w.heap.size + 1, 1, none⟩ = some (.slice none 0 0) := by simp [World.cell?, hf']
          have f0 : w2.frozen? ⟨w.heap.size + 1, 0, none⟩ = false := by simp [World.frozen?, hf']
          have f1 : w2.frozen? ⟨w.heap.size + 1, 1, none⟩ = false := by simp [World.frozen?, hf']
          have HR := Lib.hid hrow
          have HRS := Lib.hid hrows
          have HZ := Lib.hid hZ0
          have HB := Lib.hid (hB0.trans (hb.mono (by omega)))
          clear hrow hrows hb hf' hF0 hK0 hB0 hZ0
          replace HV := Lib.hid (show thrOf (m : Int) k = ⟨(m : Nat), famOf m (fun x => decide (k ≤ ((listOf x).length : Nat))), 0⟩ by have := HV.out; rwa [Int.toNat_natCast] at this)
          generalize famOf m (fun x => decide (k ≤ ((listOf x).length : Nat))) = Z at *
          go_wp2_with fail
          refine bodyPost_ret (v := .tuple #[.agg #[.int .i64 (m : Nat), .slice va Z.length vc], .int .i64 0]) (by simp [results, Tryd.results39, go_sem, c0, c1]) rfl ?_
          rw [HV.out]
          have hlt : w.heap.size + 1 < w1.heap.size := by have := HZ.out; omega
          have hle : w.heap.size ≤ w1.heap.size := by omega
          exact ⟨⟨_, us, rfl, ownsRow_mono (row_set (row_set HR.out hlt _) hlt _) hle, (HRS.out.map fun u zs hu => row_set (row_set hu hlt _) hlt _).mono hle⟩, (HB.out.setCell (by simp) _).setCell (by simp) _⟩
end Go.Proofs.YteifllengcacbaaDoor

namespace Go.Proofs.YteifllengcacbaaDoor
open Go.RowKit Go.Deep Go.Shelf
set_option linter.unusedVariables false

end Go.Proofs.YteifllengcacbaaDoor

namespace Go.Proofs.YteifllengcacbaaDoor
open Go.RowKit Go.Deep Go.Shelf
set_option linter.unusedVariables false

set_option maxRecDepth 100000 in
set_option maxHeartbeats 600000 in
theorem weight_any (x : Nat) (a : Option Addr) (zs : List Int) (c : Nat) (w : World) (hx : x < 128) (hr : Ints w a zs) (h7 : zs.length ≤ 7) (hw : ∀ i, i < zs.length → 0 ≤ nth zs i ∧ nth zs i ≤ 1000) :
    Calls Tryd.prog 76 #[.int .u64 x, .slice a zs.length c] w fun e w' => e = .returned (.int .i64 (wsum zs x zs.length)) ∧ w = w' := by
  have HW := Lib.hid hw
  clear hw
  go_enter Tryd.func76, Tryd.ntmps76
  go_wp2_with fail
  go_loop [5, 10] (fun s i => ∃ j : Nat, j ≤ zs.length ∧ i = .int .i64 j ∧ s = .int .i64 (wsum zs x j))
    (fun _ i => zs.length - (intOf i).toNat)
  case atStart => exact ⟨0, Nat.zero_le _, rfl, rfl⟩
  case round =>
    obtain ⟨j, hj, rfl, rfl⟩ := hrel
    by_cases hlt : j < zs.length
    · rcases hr with h | ⟨b, o, rfl, hc⟩
      · rw [h] at hlt; exact absurd hlt (Nat.not_lt_zero _)
      have hcell := hc j hlt
      have hji : (j : Int) < (zs.length : Int) := by omega
      have hbd := wsum_bd x HW.out j (by omega)
      have hb0 : 0 ≤ wsum zs x j := hbd.1
      have hb1 : wsum zs x j ≤ 7000 := by omega
      have hw0 : 0 ≤ nth zs j := (HW.out j hlt).1
      have hw1 : nth zs j ≤ 1000 := (HW.out j hlt).2
      clear hbd hc
      cases hbit : x.testBit j with
      | true =>
        have HS := Lib.hid (wsum_hit (zs := zs) hbit)
        have HT := Lib.hid hbit
        clear hbit
        go_wp2_with fail
        refine (has_any x j w hx (by omega) (by omega)).mono ?_
        rintro e w' ⟨rfl, rfl⟩
        rw [Int.toNat_natCast, HT.out]
        go_wp2_with fail
        go_round
        case rel => exact ⟨j + 1, by omega, by go_num, by rw [HS.out]⟩
        case measure => simp [intOf]; omega
      | false =>
        have HS := Lib.hid (wsum_miss (zs := zs) hbit)
        have HT := Lib.hid hbit
        clear hbit
        go_wp2_with fail
        refine (has_any x j w hx (by omega) (by omega)).mono ?_
        rintro e w' ⟨rfl, rfl⟩
        rw [Int.toNat_natCast, HT.out]
        go_wp2_with fail
        go_round
        case rel => exact ⟨j + 1, by omega, by go_num, by rw [HS.out]⟩
        case measure => simp [intOf]; omega
    · have HJ := Lib.hid (show j = zs.length by omega)
      go_wp2_with fail
      go_ret
      exact ⟨by rw [HJ.out]; rfl, rfl⟩

set_option maxRecDepth 100000 in
theorem wtd_chooses (B C : Nat) (a : Option Addr) (zs : List Int) (c : Nat) (k : Int) (w : World) (hB : w.cell? ⟨B, 0, none⟩ = some (.slice a zs.length c)) (hC : w.cell? ⟨C, 0, none⟩ = some (.int .i64 k)) (hr : Ints w a zs) (h7 : zs.length ≤ 7) (hw : ∀ i, i < zs.length → 0 ≤ nth zs i ∧ nth zs i ≤ 1000) :
    Chooses w 75 #[] #[.pointer (some ⟨B, 0, none⟩), .pointer (some ⟨C, 0, none⟩)] (heavy zs k) := by
  refine ⟨enters_of Tryd.func75 (by kernel_rfl) rfl, fun x W hb => ?_⟩
  have hx := x.isLt
  have hBW := cell_step hb hB
  have hCW := cell_step hb hC
  have HR := Lib.hid (hr.step hb)
  have HW := Lib.hid hw
  have HH := Lib.hid (show heavy zs k x.val = decide (k ≤ wsum zs x.val zs.length) from rfl)
  clear hb hB hC hr hw
  show Calls Tryd.prog 75 #[.int .u64 (x.val : Int), .pointer (some ⟨B, 0, none⟩), .pointer (some ⟨C, 0, none⟩)] W _
  rw [HH.out]
  generalize x.val = y at *
  go_enter Tryd.func75, Tryd.ntmps75
  go_wp2
  go_quiet ((go_at_call 76; refine Calls.quiet_of_same (swapped (weight_any y a zs c _ hx ?_ h7 HW.out)); exact HR.out.quiet ⟨_, rfl⟩))
  go_wp2
  go_ret
  exact ⟨rfl, quiet_below ⟨_, rfl⟩⟩

set_option maxHeartbeats 1000000 in
set_option maxRecDepth 100000 in
theorem implWtd_any (a : Option Addr) (zs : List Int) (c : Nat) (k : Int) (w : World) (hr : Ints w a zs) (hl : zs.length ≤ 1048576) : Calls Tryd.prog 40 #[.slice a zs.length c, .int .i64 k] w (GivesFO w (wtdOf zs k)) := by
  by_cases c1 : zs.length < 1
  · have t1 : decide (zs.length < 1) = true := by simpa using c1
    have t1i : decide ((zs.length : Int) < 1) = true := by simp; omega
    have HV := Lib.hid (wtdOf_no (zs := zs) (k := k) fun h => by have := h.1; omega)
    clear c1 hr
    go_enter Tryd.func40, Tryd.ntmps40
    go_wp2_with fail
    refine bodyPost_ret (v := .tuple #[.agg #[.int .i64 0, .slice none 0 0], .int .i64 2]) (by simp [results, Tryd.results40, go_sem]) rfl ?_
    rw [HV.out]
    exact GivesFO.no _ (by go_grown)
  · by_cases c2 : 7 < zs.length
    · have t2 : decide (7 < zs.length) = true := by simpa using c2
      have t2i : (7 : Int) < (zs.length : Int) := by omega
      have HV := Lib.hid (wtdOf_no (zs := zs) (k := k) fun h => by have := h.1; omega)
      clear hr
      go_enter Tryd.func40, Tryd.ntmps40
      go_wp2_with fail
      refine bodyPost_ret (v := .tuple #[.agg #[.int .i64 0, .slice none 0 0], .int .i64 2]) (by simp [results, Tryd.results40, go_sem]) rfl ?_
      rw [HV.out]
      exact GivesFO.no _ (by go_grown)
    · have n1 : 1 ≤ zs.length := by omega
      have n7 : zs.length ≤ 7 := by omega
      clear c1 c2
      by_cases c3 : k < 0
      · have HV := Lib.hid (wtdOf_no (zs := zs) (k := k) fun h => by have := h.2.1; omega)
        clear hr
        go_enter Tryd.func40, Tryd.ntmps40
        go_wp2_with fail
        refine bodyPost_ret (v := .tuple #[.agg #[.int .i64 0, .slice none 0 0], .int .i64 2]) (by simp [results, Tryd.results40, go_sem]) rfl ?_
        rw [HV.out]
        exact GivesFO.no _ (by go_grown)
      · have k0 : 0 ≤ k := by omega
        clear c3
        by_cases c4 : 7001 < k
        · have HV := Lib.hid (wtdOf_no (zs := zs) (k := k) fun h => by have := h.2.1; omega)
          clear hr
          go_enter Tryd.func40, Tryd.ntmps40
          go_wp2_with fail
          refine bodyPost_ret (v := .tuple #[.agg #[.int .i64 0, .slice none 0 0], .int .i64 2]) (by simp [results, Tryd.results40, go_sem]) rfl ?_
          rw [HV.out]
          exact GivesFO.no _ (by go_grown)
        · have k1 : k ≤ 7001 := by omega
          clear c4
          have hB0 := (((Below.refl w.heap.size w).alloc (Nat.le_refl _) (.cells #[.slice a zs.length c] 28)).alloc (by simp) (.cells #[.int .i64 k] 2)).alloc (by simp; omega) (.cells #[.int .i64 0, .slice none 0 0] 26)
          have hF0 : Boxes1 (((w.alloc (.cells #[.slice a zs.length c] 28)).alloc (.cells #[.int .i64 k] 2)).alloc (.cells #[.int .i64 0, .slice none 0 0] 26)) (w.heap.size + 1 + 1) := by
            have := World.alloc_heap_new ((w.alloc (.cells #[.slice a zs.length c] 28)).alloc (.cells #[.int .i64 k] 2)) (.cells #[.int .i64 0, .slice none 0 0] 26)
            simpa [Boxes1] using this
          have hK0 : (((w.alloc (.cells #[.slice a zs.length c] 28)).alloc (.cells #[.int .i64 k] 2)).alloc (.cells #[.int .i64 0, .slice none 0 0] 26)).cell? ⟨w.heap.size, 0, none⟩ = some (.slice a zs.length c) := by simp [go_sem]
          have hK1 : (((w.alloc (.cells #[.slice a zs.length c] 28)).alloc (.cells #[.int .i64 k] 2)).alloc (.cells #[.int .i64 0, .slice none 0 0] 26)).cell? ⟨w.heap.size + 1, 0, none⟩ = some (.int .i64 k) := by simp [go_sem]
          have HA := Lib.hid (hr.step hB0)
          clear hr
          have HB := Lib.hid hB0
          have HF := Lib.hid hF0
          have HK0 := Lib.hid hK0
          have HK1 := Lib.hid hK1
          clear hB0 hF0 hK0 hK1
          go_enter Tryd.func40, Tryd.ntmps40
          go_wp2_with fail
          generalize (((w.alloc (.cells #[.slice a zs.length c] 28)).alloc (.cells #[.int .i64 k] 2)).alloc (.cells #[.int .i64 0, .slice none 0 0] 26)) = w1 at *
          have hZ := HF.out.lt
          go_loop [27] (fun i => ∃ j : Nat, j ≤ zs.length ∧ i = .int .i64 j ∧ ∀ r, r < j → 0 ≤ nth zs r ∧ nth zs r ≤ 1000)
            (fun i => zs.length - (intOf i).toNat)
          case atStart => exact ⟨0, by omega, rfl, fun r hr => absurd hr (Nat.not_lt_zero _)⟩
          case round =>
            obtain ⟨j, hj, rfl, hall⟩ := hrel
            have HL := Lib.hid hall
            clear hall
            by_cases hlt : j < zs.length
            · rcases HA.out with h | ⟨b, o, rfl, hc⟩
              · rw [h] at hlt; exact absurd hlt (Nat.not_lt_zero _)
              have hcell := hc j hlt
              have hji : (j : Int) < (zs.length : Int) := by omega
              have c0 := HF.out.c0
              have c1 := HF.out.c1
              have f0 := HF.out.f 0
              have f1 := HF.out.f 1
              clear hc
              by_cases hw0 : nth zs j < 0
              · have HV := Lib.hid (wtdOf_no (zs := zs) (k := k) fun h => by have := (h.2.2 j hlt).1; omega)
                go_wp2_with fail
                refine bodyPost_ret (v := .tuple #[.agg #[.int .i64 0, .slice none 0 0], .int .i64 2]) (by simp [results, Tryd.results40, go_sem, c0, c1]) rfl ?_
                rw [HV.out]
                exact GivesFO.no _ ((HB.out.setCell (by simp <;> omega) _).setCell (by simp <;> omega) _)
              · by_cases hw1 : 1000 < nth zs j
                · have HV := Lib.hid (wtdOf_no (zs := zs) (k := k) fun h => by have := (h.2.2 j hlt).2; omega)
                  have hw2 : 0 ≤ nth zs j := by omega
                  clear hw0
                  go_wp2_with fail
                  refine bodyPost_ret (v := .tuple #[.agg #[.int .i64 0, .slice none 0 0], .int .i64 2]) (by simp [results, Tryd.results40, go_sem, c0, c1]) rfl ?_
                  rw [HV.out]
                  exact GivesFO.no _ ((HB.out.setCell (by simp <;> omega) _).setCell (by simp <;> omega) _)
                · have hw2 : 0 ≤ nth zs j := by omega
                  have hw3 : nth zs j ≤ 1000 := by omega
                  clear hw0 hw1
                  go_wp2_with fail
                  go_round
                  case rel =>
                    refine ⟨j + 1, by omega, by go_num, fun r hr => ?_⟩
                    by_cases e : r = j
                    · subst e; exact ⟨hw2, hw3⟩
                    · exact HL.out r (by omega)
                  case measure => simp [intOf]; omega
            · have HW := Lib.hid (show ∀ i, i < zs.length → 0 ≤ nth zs i ∧ nth zs i ≤ 1000 from fun i hi => HL.out i (by omega))
              have HV := Lib.hid (wtdOf_yes (zs := zs) (k := k) ⟨⟨n1, n7⟩, ⟨k0, k1⟩, HW.out⟩)
              have q0 := HK0.out
              have q1 := HK1.out
              go_wp2_with fail
              clear q0 q1
              refine (famWhere_any zs.length _ #[] #[.pointer (some ⟨w.heap.size, 0, none⟩), .pointer (some ⟨w.heap.size + 1, 0, none⟩)] _ w1 n1 n7 (wtd_chooses w.heap.size (w.heap.size + 1) a zs c k w1 HK0.out HK1.out HA.out n7 HW.out)).mono ?_
              rintro e w2 ⟨⟨v, us, rfl, hrow, hrows⟩, hb⟩
              obtain ⟨va, vc, rfl⟩ := rowForm hrow
              have hf' := HF.out.step hb
              have c0 := hf'.c0
              have c1 := hf'.c1
              have f0 := hf'.f 0
              have f1 := hf'.f 1
              have HR := Lib.hid hrow
              have HRS := Lib.hid hrows
              have hle : w.heap.size ≤ w1.heap.size := by omega
              have HB2 := Lib.hid (HB.out.trans (hb.mono hle))
              clear hrow hrows hb hf'
              generalize famOf zs.length (heavy zs k) = Z at *
              go_wp2_with fail
              refine bodyPost_ret (v := .tuple #[.agg #[.int .i64 (zs.length : Nat), .slice va Z.length vc], .int .i64 0]) (by simp [results, Tryd.results40, go_sem, c0, c1]) rfl ?_
              rw [HV.out]
              exact ⟨⟨_, us, rfl, ownsRow_mono (row_set (row_set HR.out hZ _) hZ _) hle, (HRS.out.map fun u zs hu => row_set (row_set hu hZ _) hZ _).mono hle⟩, (HB2.out.setCell (by simp <;> omega) _).setCell (by simp <;> omega) _⟩
end Go.Proofs.YteifllengcacbaaDoor

namespace Go.Proofs.YteifllengcacbaaDoor
open Go.RowKit Go.Deep Go.Joins
set_option linter.unusedVariables false

theorem dualG {m : Nat} (a : Option Addr) (zss : List (List Int)) (c : Nat) (w : World) (m1 : 1 ≤ m) (h7 : m ≤ 7) (hf : FamOk (m : Int) zss) (hr : Rows2 w a zss) :
    Calls Tryd.prog 23 #[.agg #[.int .i64 (m : Nat), .slice a zss.length c]] w fun e w' => GF w' m (dualB m zss) e ∧ Below w.heap.size w w' := by
  have h := implDual_any (m : Int) a zss c w hr (fam_small h7 hf)
  rw [dualOf_yes hf] at h
  exact h.mono fun e w' g => ⟨GF.of m1 h7 (dual_mono m zss) g, g.below⟩
end Go.Proofs.YteifllengcacbaaDoor

namespace Go.Proofs.YteifllengcacbaaDoor
open Go.RowKit Go.Deep Go.Shelf
set_option linter.unusedVariables false

theorem upon_wide {n : Nat} {P : Program} {o : Oper} {a : Act} {K : Act → World → Prop} {Q : Exit → Act → World → Prop} {r : Result Next} (h : o.upon P a K Q r) : o.uponIn Fence.wide n P a K Q r := by
  rcases r with ⟨x, w'⟩ | ⟨x, w'⟩
  · cases x
    case enter f args => exact ⟨(fun q => nomatch q), callsIn_wide.2 h⟩
    case row row args =>
      refine ⟨(fun q => nomatch q), fun c cs _ => ?_⟩
      obtain ⟨v, w2, r, s⟩ := h c cs
      exact ⟨v, w2, r, stepsIn_wide.2 s⟩
    all_goals first | exact h | exact False.elim h
  · cases x
    all_goals first | exact h | exact False.elim h
theorem wpOp_wide {n : Nat} {P : Program} {ops : Array Oper} {Q : Exit → Act → World → Prop} (hL : ¬ LetsOut Q) {i : Nat} {K K' : Act → World → Prop} (hK : ∀ a w, K a w → K' a w) {a : Act} {w : World}
    (h : wpOp P ops Q i K a w) : wpOpIn Fence.wide n P ops Q i K' a w := by
  unfold wpOp at h
  unfold wpOpIn
  cases ho : ops[i]? with
  | none => rw [ho] at h; exact hK _ _ h
  | some o =>
    rw [ho] at h
    dsimp only at h ⊢
    by_cases hw : Region.wanted o (yielded ops a.tmps) = true
    · rw [if_pos hw] at h ⊢
      rcases h with h | h
      · exact ⟨fun _ _ => trivial, upon_wide (Oper.wp_mono hK h)⟩
      · exact absurd h.2 hL
    · rw [if_neg hw] at h ⊢
      exact ⟨fun _ _ => trivial, hK _ _ h⟩
theorem wpAny_wide {n : Nat} {P : Program} {md : Region.Mode} {ops : Array Oper} {Q : Exit → Act → World → Prop} (hL : ¬ LetsOut Q) :
    ∀ (fuel : Nat) (listed : Array Bool) (a : Act) (w : World), wpAny P md ops Q fuel listed a w → wpAnyIn Fence.wide n P md ops Q fuel listed a w
  | 0, _, _, _, h => h
  | fuel + 1, _, _, _, ⟨h0, h1⟩ => ⟨h0, fun i hi => wpOp_wide hL (fun a w h => wpAny_wide hL fuel _ a w h) (h1 i hi)⟩
/-- One walk for all orders, in a round. -/
theorem wpIn_region_roundQ {P : Program} {n l id : Nat} {lst : List Oper} {Q : Exit → Act → World → Prop} {a : Act} {w : World} (C : World → Prop) (hm : P.follows .mixedOrders = true) (hd : noDefer lst.toArray = true) (hB : Region.lexB .any lst.toArray = true) (hC : C w.drew)
    (h : wpQuiet P lst.toArray C (fun a' => ∀ w', C w' → Q .normal a' w') lst a) : (Code.region id lst.toArray true).wpIn (Fence.wide.inRound l) n P Q a w := by
  have hL : ¬ LetsOut (fun (e : Exit) (a : Act) (w : World) => e = .normal ∧ Q .normal a w) := fun ⟨a, w, h, _⟩ => by cases h
  have h1 : wpAny P .any lst.toArray (fun e a w => e = .normal ∧ Q .normal a w) lst.toArray.size (Array.replicate lst.toArray.size false) a w.drew := by
    simp only [Region.lexB, Bool.and_eq_true] at hB
    refine wpAny_of_quiet (C := C) (Q := fun a' => ∀ w', C w' → Q .normal a' w') (fun _ w' hw' h => ⟨rfl, h w' hw'⟩) _ _ _ _ hC ?_
    have := wpAnyQ_lex (C := C) (md := .any) hB.1 lst.toArray.toList 0 (Array.replicate lst.toArray.size false) a (by simp) (by simpa using hB.2) (by simpa using h)
    simpa using this
  exact wpIn_mono (wpIn_region_round l rfl hd hm (wpAny_wide hL _ _ _ _ h1)) (fun e a w ⟨he, hq⟩ => by subst he; exact hq)
/-- The worlds behind a world, as the values of a function. -/
theorem class_ofR (w : World) : ∃ f : Option World → World, (∀ t, Below w.heap.size w (f t)) ∧ ∀ w', Below w.heap.size w w' → ∃ t, w' = f t := by
  classical
  refine ⟨fun t => match t with | some W => if Below w.heap.size w W then W else w | none => w, fun t => ?_, fun w' h => ⟨some w', by simp [h]⟩⟩
  cases t with
  | none => exact Below.refl _ _
  | some W => by_cases h : Below w.heap.size w W <;> simp [h]; exact Below.refl _ _
end Go.Proofs.YteifllengcacbaaDoor

namespace Go.Proofs.YteifllengcacbaaDoor
open Go.RowKit Go.Deep Go.Shelf
set_option linter.unusedVariables false
attribute [local go_sem] Oper.semAt_some

/-- A group in which two holders have changed places. -/
def swpN (i j g : Nat) : Nat := if g.testBit i = g.testBit j then g else g ^^^ (2 ^ i ||| 2 ^ j)
theorem swpN_lt : ∀ g : Nat, g < 128 → ∀ i : Nat, i < 7 → ∀ j : Nat, j < 7 → swpN i j g < 128 := by decide +kernel
theorem xor_fact : ∀ x : Nat, x < 128 → ∀ i : Nat, i < 7 → ∀ j : Nat, j < 7 → bits BinOp.xor IntKind.u64 (x : Int) (bits BinOp.or IntKind.u64 (IntKind.u64.wrap (2 ^ i)) (IntKind.u64.wrap (2 ^ j))) = (x ^^^ (2 ^ i ||| 2 ^ j) : Nat) := by decide +kernel
set_option maxRecDepth 100000 in
theorem swapped_any (g i j : Nat) (w : World) (hg : g < 128) (hi : i < 7) (hj : j < 7) :
    Calls Tryd.prog 92 #[.int .u64 g, .int .i64 (i : Nat), .int .i64 (j : Nat)] w fun e w' => e = .returned (.int .u64 (swpN i j g : Nat)) ∧ Quiet w w' := by
  have hi0 : (0 : Int) ≤ (i : Int) := by omega
  have hj0 : (0 : Int) ≤ (j : Int) := by omega
  have HX := Lib.hid (xor_fact g hg i hi j hj)
  by_cases hb : g.testBit i = g.testBit j
  · have HV := Lib.hid (show swpN i j g = g by unfold swpN; rw [if_pos hb])
    have hbb : (g.testBit i == g.testBit j) = true := by rw [hb]; simp
    have HBB := Lib.hid hb
    clear hb
    go_enter Tryd.func92, Tryd.ntmps92
    go_wp2_with fail
    refine (has_any g (i : Int) w hg (by omega) (by omega)).mono ?_
    rintro e w' ⟨rfl, rfl⟩
    rw [Int.toNat_natCast, HBB.out]
    go_wp2_with fail
    refine (has_any g (j : Int) w hg (by omega) (by omega)).mono ?_
    rintro e w' ⟨rfl, rfl⟩
    rw [Int.toNat_natCast]
    go_wp2_with fail
    go_ret
    exact ⟨by rw [HV.out]; rfl, Quiet.refl _⟩
  · have HV := Lib.hid (show swpN i j g = g ^^^ (2 ^ i ||| 2 ^ j) by unfold swpN; rw [if_neg hb])
    have hbb : (g.testBit i == g.testBit j) = false := by simp [hb]
    clear hb
    go_enter Tryd.func92, Tryd.ntmps92
    go_wp2_with fail
    refine (has_any g (i : Int) w hg (by omega) (by omega)).mono ?_
    rintro e w' ⟨rfl, rfl⟩
    rw [Int.toNat_natCast]
    go_wp2_with fail
    refine (has_any g (j : Int) w hg (by omega) (by omega)).mono ?_
    rintro e w' ⟨rfl, rfl⟩
    rw [Int.toNat_natCast]
    go_wp2_with fail
    go_quiet (fail)
    go_wp2_with fail
    go_ret
    refine ⟨?_, ⟨_, rfl⟩⟩
    rw [HV.out, ← HX.out]; rfl

def alikeB (q : Nat → Bool) (m i j : Nat) : Bool := (lexAll m).all fun g => q g.val == q (swpN i j g.val)
/-- What lies where groups are swapped. -/
structure AlI (w : World) (T m i j : Nat) (q : Nat → Bool) (r : Bool) (W : World) : Prop where
  bel : Below w.heap.size w W
  sz : w.heap.size + 5 ≤ W.heap.size
  b3 : W.cell? ⟨w.heap.size, 0, none⟩ = some (.pointer (some ⟨T, 0, none⟩))
  b4 : W.cell? ⟨w.heap.size + 1, 0, none⟩ = some (.int .i64 (i : Nat))
  b5 : W.cell? ⟨w.heap.size + 1 + 1, 0, none⟩ = some (.int .i64 (j : Nat))
  b6 : W.cell? ⟨w.heap.size + 1 + 1 + 1, 0, none⟩ = some (.bool r)
  f6 : W.frozen? ⟨w.heap.size + 1 + 1 + 1, 0, none⟩ = false
  tab : TableAt W T m q
theorem AlI.own1 {w W W' : World} {T m i j : Nat} {q : Nat → Bool} {r : Bool} {B : Nat} {row : Option Nat} (hB : w.heap.size ≤ B) (hs : AlI w T m i j q r W) (hg : W.grownBy W' row) (hr : ∀ r, row = some r → B ≤ r ∧ ∃ o : Obj, W.heap[r]? = some o ∧ o.isCells = false) : AlI w T m i j q r W' := by
  have hr' : ∀ r, row = some r → ∃ o : Obj, W.heap[r]? = some o ∧ o.isCells = false := fun r e => (hr r e).2
  exact ⟨hs.bel.grown hg hs.bel.size (fun k hk => by have := (hr k hk).1; omega), Nat.le_trans hs.sz hg.size, cell_kept hs.b3 hg hr', cell_kept hs.b4 hg hr', cell_kept hs.b5 hg hr', cell_kept hs.b6 hg hr', (frozen_kept hs.b6 hg hr').trans hs.f6, hs.tab.kept hg hr'⟩
theorem AlI.step {w W W' : World} {T m i j : Nat} {q : Nat → Bool} {r : Bool} (hs : AlI w T m i j q r W) (hb : Below W.heap.size W W') : AlI w T m i j q r W' :=
  ⟨hs.bel.trans (hb.mono hs.bel.size), Nat.le_trans hs.sz hb.size, cell_step hb hs.b3, cell_step hb hs.b4, cell_step hb hs.b5, cell_step hb hs.b6, (hb.frozen (p := ⟨w.heap.size + 1 + 1 + 1, 0, none⟩) (World.block_lt_of_cell? _ _ hs.b6)).trans hs.f6, hs.tab.step hb⟩
theorem AlI.put {w W : World} {T m i j : Nat} {q : Nat → Bool} {r : Bool} (hs : AlI w T m i j q r W) (hT : T < w.heap.size) (v : Bool) : AlI w T m i j q v (W.setCell ⟨w.heap.size + 1 + 1 + 1, 0, none⟩ (.bool v)) := by
  have hT' : T ≠ w.heap.size + 1 + 1 + 1 := by omega
  refine ⟨hs.bel.setCell (by simp <;> omega) _, by simpa [World.setCell] using hs.sz, ?_, ?_, ?_, ?_, ?_, ⟨?_, fun y hy => ?_, fun o => ?_⟩⟩
  · rw [World.cell?_setCell_other _ _ _ _ (by simp <;> omega)]; exact hs.b3
  · rw [World.cell?_setCell_other _ _ _ _ (by simp <;> omega)]; exact hs.b4
  · rw [World.cell?_setCell_other _ _ _ _ (by simp <;> omega)]; exact hs.b5
  · exact World.cell?_setCell_same' _ _ _ (by rw [hs.b6]; rfl)
  · rw [World.frozen?_setCell]; exact hs.f6
  · rw [World.cell?_setCell_other _ _ _ _ (by simp <;> omega)]; exact hs.tab.h0
  · rw [World.cell?_setCell_other _ _ _ _ (by simp <;> omega)]; exact hs.tab.cell y hy
  · rw [World.frozen?_setCell]; exact hs.tab.free o

set_option maxRecDepth 100000 in
set_option maxHeartbeats 2000000 in
theorem areAlike_any (T m i j : Nat) (q : Nat → Bool) (w : World) (ht : TableAt w T m q) (h7 : m ≤ 7) (hi : i < 7) (hj : j < 7) :
    Calls Tryd.prog 73 #[.pointer (some ⟨T, 0, none⟩), .int .i64 (i : Nat), .int .i64 (j : Nat)] w fun e w' => e = .returned (.bool (alikeB q m i j)) ∧ Below w.heap.size w w' := by
  have hT : T < w.heap.size := World.block_lt_of_cell? _ _ ht.h0
  have h0 := ht.h0
  have HT := Lib.hid ht
  clear ht
  have hT1 : T < w.heap.size + 1 := by omega
  have hT2 : T < w.heap.size + 1 + 1 := by omega
  have hT3 : T < w.heap.size + 1 + 1 + 1 := by omega
  have n0 : ¬ T = w.heap.size := by omega
  have n1 : ¬ T = w.heap.size + 1 := by omega
  have n2 : ¬ T = w.heap.size + 1 + 1 := by omega
  have n3 : ¬ T = w.heap.size + 1 + 1 + 1 := by omega
  refine (callsIn_wide (n := 9)).1 ?_
  have hdd : ∀ k : Nat, (Fence.wide.depth.isSome = true → 1 ≤ k) := fun k h => by cases h
  refine callsIn_of_wp_marks Tryd.func73 rfl trivial ?_ rfl
  simp only [Tryd.ntmps73, List.size_toArray, List.length_cons, List.length_nil, Nat.reduceAdd, Nat.reduceSub, Array.replicate_succ, Array.replicate_zero, List.push_toArray, List.append_toArray, List.nil_append, List.cons_append]
  gi_wp2_with (refine ⟨trivial, ?_⟩; gi_at_call 69; refine (callsIn_wide.2 (groupsOf_any _ _)).mono ?_; rintro e w' ⟨rfl, rfl⟩)
  have hb5 : Below w.heap.size w (((((w.alloc (.cells #[.pointer (some ⟨T, 0, none⟩)] 57)).alloc (.cells #[.int .i64 (i : Nat)] 2)).alloc (.cells #[.int .i64 (j : Nat)] 2)).alloc (.cells #[.bool false] 4)).alloc (.cells #[.int .i64 (m : Nat)] 2)) := (((((Below.refl w.heap.size w).alloc (Nat.le_refl _) (.cells #[.pointer (some ⟨T, 0, none⟩)] 57)).alloc (by simp <;> omega) (.cells #[.int .i64 (i : Nat)] 2)).alloc (by simp <;> omega) (.cells #[.int .i64 (j : Nat)] 2)).alloc (by simp <;> omega) (.cells #[.bool false] 4)).alloc (by simp <;> omega) (.cells #[.int .i64 (m : Nat)] 2)
  have hinv0 : AlI w T m i j q false (((((w.alloc (.cells #[.pointer (some ⟨T, 0, none⟩)] 57)).alloc (.cells #[.int .i64 (i : Nat)] 2)).alloc (.cells #[.int .i64 (j : Nat)] 2)).alloc (.cells #[.bool false] 4)).alloc (.cells #[.int .i64 (m : Nat)] 2)) := ⟨hb5, by simp, by simp [go_sem], by simp [go_sem], by simp [go_sem], by simp [go_sem], by simp [go_sem], HT.out.step hb5⟩
  have hbox : (((((w.alloc (.cells #[.pointer (some ⟨T, 0, none⟩)] 57)).alloc (.cells #[.int .i64 (i : Nat)] 2)).alloc (.cells #[.int .i64 (j : Nat)] 2)).alloc (.cells #[.bool false] 4)).alloc (.cells #[.int .i64 (m : Nat)] 2)).cell? ⟨w.heap.size + 1 + 1 + 1 + 1, 0, none⟩ = some (.int .i64 (m : Nat)) := by simp [go_sem]
  have hsz : (((((w.alloc (.cells #[.pointer (some ⟨T, 0, none⟩)] 57)).alloc (.cells #[.int .i64 (i : Nat)] 2)).alloc (.cells #[.int .i64 (j : Nat)] 2)).alloc (.cells #[.bool false] 4)).alloc (.cells #[.int .i64 (m : Nat)] 2)).heap.size = w.heap.size + 5 := by simp
  clear hb5 h0 hT1 hT2 hT3 n0 n1 n2 n3
  generalize ((((w.alloc (.cells #[.pointer (some ⟨T, 0, none⟩)] 57)).alloc (.cells #[.int .i64 (i : Nat)] 2)).alloc (.cells #[.int .i64 (j : Nat)] 2)).alloc (.cells #[.bool false] 4)).alloc (.cells #[.int .i64 (m : Nat)] 2) = w0 at *
  have HI0 := Lib.hid hinv0
  have hmx : Tryd.prog.follows .mixedOrders = true := by kernel_rfl
  clear hinv0
  refine wpIn_rangeFunc_ownG rfl (by decide) (gf := 87) (lb := #[.pointer (some ⟨w.heap.size + 1 + 1 + 1 + 1, 0, none⟩)]) rfl trivial (enters_of Tryd.func87 (by kernel_rfl) rfl)
    (groups_stops 8 m (w.heap.size + 1 + 1 + 1 + 1) w0 h7 (by omega) hbox) (fun _ _ => trivial) (fun _ _ _ _ _ _ _ _ => trivial) (Below.refl _ _) (fun _ => rfl)
    (fun pre W => AlI w T m i j q false W ∧ ∀ g ∈ pre, q g.val = q (swpN i j g.val))
    (fun c pre W => c = .ret ∧ (∃ g ∈ pre, ¬ q g.val = q (swpN i j g.val)) ∧ AlI w T m i j q false W)
    (fun s W W' row hs hg hr => ⟨AlI.own1 (by omega) hs.1 hg hr, hs.2⟩)
    (fun c s W W' row hs hg hr => ⟨hs.1, hs.2.1, AlI.own1 (by omega) hs.2.2 hg hr⟩)
    ⟨HI0.out, by simp⟩
    (fun x => { tmps := #[.pointer (some ⟨T, 0, none⟩), .int .i64 (i : Nat), .int .i64 (j : Nat), .pointer (some ⟨w.heap.size, 0, none⟩), .pointer (some ⟨w.heap.size + 1, 0, none⟩), .pointer (some ⟨w.heap.size + 1 + 1, 0, none⟩), .pointer (some ⟨w.heap.size + 1 + 1 + 1, 0, none⟩), .int .u64 (x.val : Int), .pointer (some ⟨T, 0, none⟩), .pointer (some ⟨T, 0, none⟩), .pointer (some ⟨T, 0, none⟩), .int .i64 (m : Nat), .func (.func 87) #[] #[.pointer (some ⟨w.heap.size + 1 + 1 + 1 + 1, 0, none⟩)], .int .u64 (x.val : Int), undef, undef, undef, undef, undef, undef, undef, undef, undef, undef], defers := [] }) ?assign ?body ?done ?stop
  case assign =>
    intro l x W K hK
    dsimp only [encG]
    gi_wp2
    exact hK
  case body =>
    intro l pre x W hI hlt
    have hx := x.isLt
    have HI := Lib.hid hI.1
    have HAL := Lib.hid hI.2
    have b3 := hI.1.b3
    have b4 := hI.1.b4
    have b5 := hI.1.b5
    have hI9 := hI.1
    have HSL := Lib.hid (swpN_lt x.val hx i hi j hj)
    obtain ⟨y, hy⟩ : ∃ y, swpN i j x.val = y := ⟨_, rfl⟩
    rw [hy] at HSL
    have HY := Lib.hid hy
    obtain ⟨u, hu⟩ : ∃ u, q x.val = u := ⟨_, rfl⟩
    obtain ⟨v, hv⟩ : ∃ v, q y = v := ⟨_, rfl⟩
    have HU := Lib.hid hu
    have HV := Lib.hid hv
    clear hI hbox hsz hlt hy hu hv
    obtain ⟨f, hf, hg⟩ := class_ofR W
    have HS := Lib.hid hf
    have HM := Lib.hid hg
    have p3 : ∀ t, (f t).cell? ⟨w.heap.size, 0, none⟩ = some (.pointer (some ⟨T, 0, none⟩)) := fun t => cell_step (hf t) b3
    have p4 : ∀ t, (f t).cell? ⟨w.heap.size + 1, 0, none⟩ = some (.int .i64 (i : Nat)) := fun t => cell_step (hf t) b4
    have p5 : ∀ t, (f t).cell? ⟨w.heap.size + 1 + 1, 0, none⟩ = some (.int .i64 (j : Nat)) := fun t => cell_step (hf t) b5
    have HTT := Lib.hid (show ∀ t, TableAt (f t) T m q from fun t => hI9.tab.step (hf t))
    have HOX := Lib.hid (show ∀ t, Calls Tryd.prog 47 #[.pointer (some ⟨T, 0, none⟩), .int .u64 (x.val : Int)] (f t) fun e w' => e = .returned (.bool u) ∧ f t = w' from fun t => by
      have h := opens_any T m x.val q (f t) hx (HTT.out t)
      rw [HU.out] at h
      exact h)
    have HOY := Lib.hid (show ∀ t, Calls Tryd.prog 47 #[.pointer (some ⟨T, 0, none⟩), .int .u64 (y : Int)] (f t) fun e w' => e = .returned (.bool v) ∧ f t = w' from fun t => by
      have h := opens_any T m y q (f t) HSL.out (HTT.out t)
      rw [HV.out] at h
      exact h)
    have HSX := Lib.hid (show ∀ t, Calls Tryd.prog 92 #[.int .u64 (x.val : Int), .int .i64 (i : Nat), .int .i64 (j : Nat)] (f t) fun e w' => e = .returned (.int .u64 (y : Int)) ∧ Quiet (f t) w' from fun t => by
      have h := swapped_any x.val i j (f t) hx hi hj
      rw [HY.out] at h
      exact h)
    clear hf hg b3 b4 b5 hI9
    generalize hxv : x.val = xv at *
    have HXV := Lib.hid hxv
    clear hxv
    gi_wp2_with fail
    refine wpIn_region_roundQ (fun w' => ∃ t, w' = f t) hmx (by kernel_rfl) (by kernel_rfl) (HM.out _ (drew_step _)) ?_
    repeat (first | go_big_quiet_skip | (go_big_quiet_want; go_big_quiet_op; first | go_big_quiet_on | go_big_quiet_call (first
      | (go_at_call 92; with_reducible refine Calls.mono (HSX.out _) ?_; rintro e w8 ⟨rfl, hq8⟩; exact ⟨rfl, HM.out _ (chain (HS.out _) (quiet_below hq8))⟩)
      | (go_at_call 47; with_reducible refine Calls.mono (HOX.out _) ?_; rintro e w8 ⟨rfl, rfl⟩; exact ⟨rfl, _, rfl⟩)
      | (go_at_call 47; with_reducible refine Calls.mono (HOY.out _) ?_; rintro e w8 ⟨rfl, rfl⟩; exact ⟨rfl, _, rfl⟩))))
    refine wpQuiet_nil ?_
    intro wq hwq
    obtain ⟨t, rfl⟩ := hwq
    have HB8 := Lib.hid (HS.out t)
    have HI8 := Lib.hid (HI.out.step (HS.out t))
    have z6 := HI8.out.b6
    have y6 := HI8.out.f6
    have hl6 := World.block_lt_of_cell? _ _ z6
    clear p3 p4 p5
    generalize f t = wq at *
    cases u <;> cases v
    all_goals gi_wp2_with fail
    · exact ⟨(keepsBelow HB8.out).from _, trivial, HI8.out, fun g hg => by
        rcases List.mem_append.1 hg with h | h
        · exact HAL.out g h
        · simp at h; subst h; rw [HXV.out, HY.out, HU.out, HV.out]⟩
    · exact ⟨((keepsBelow HB8.out).trans (KeepsOthers.setCell _ _ _)).from _, rfl, ⟨x, by simp, by rw [HXV.out, HY.out, HU.out, HV.out]; decide⟩, HI8.out.put hT false⟩
    · exact ⟨((keepsBelow HB8.out).trans (KeepsOthers.setCell _ _ _)).from _, rfl, ⟨x, by simp, by rw [HXV.out, HY.out, HU.out, HV.out]; decide⟩, HI8.out.put hT false⟩
    · exact ⟨(keepsBelow HB8.out).from _, trivial, HI8.out, fun g hg => by
        rcases List.mem_append.1 hg with h | h
        · exact HAL.out g h
        · simp at h; subst h; rw [HXV.out, HY.out, HU.out, HV.out]⟩
  case done =>
    rintro D ys W hD rfl ⟨hI, hall⟩ hK
    have b6 := hI.b6
    have f6 := hI.f6
    have hl6 := World.block_lt_of_cell? _ _ b6
    have HI := Lib.hid hI
    have HK := Lib.hid hK
    have HV := Lib.hid (show alikeB q m i j = true by unfold alikeB; rw [List.all_eq_true]; intro g hg; rw [hall g hg]; simp)
    clear hI hK hbox hall
    gi_wp2_with fail
    have k3 : (W.setCell ⟨w.heap.size + 1 + 1 + 1, 0, none⟩ (.bool true)).heap[D]? = some (.deferred (some [])) := (Below.heap_setCell _ _ _ _ (by show D ≠ w.heap.size + 1 + 1 + 1; omega)).trans HK.out
    have hip := HI.out.put hT true
    have d0 := cell_kept hip.b6 (grownBy_putObj' _ D (.deferred none)) (fun r e => by cases e; exact ⟨_, k3, rfl⟩)
    have hbe := hip.bel.grown (grownBy_putObj' _ D (.deferred none)) hip.bel.size (fun k e => by cases e; omega)
    refine ⟨by simp, .inl ⟨_, _, rfl, run_takeDeferred k3, ?_⟩⟩
    refine ⟨.bool true, ?_, ?_⟩
    · simp only [results]
      go_simp
    · exact ⟨by rw [HV.out], hbe⟩
  case stop =>
    rintro D c pre W hD hpre ⟨rfl, ⟨g, hg, hne⟩, hI⟩ hK
    have HV := Lib.hid (show alikeB q m i j = false by
      cases h : alikeB q m i j with
      | false => rfl
      | true =>
        unfold alikeB at h
        rw [List.all_eq_true] at h
        exact absurd (by simpa using h g (hpre.subset hg)) hne)
    have d0 := cell_kept hI.b6 (grownBy_putObj' _ D (.deferred none)) (fun r e => by cases e; exact ⟨_, hK, rfl⟩)
    have hbe := hI.bel.grown (grownBy_putObj' _ D (.deferred none)) hI.bel.size (fun k e => by cases e; omega)
    clear hbox hne hg hpre
    gi_wp2_with fail
    refine ⟨by simp, .inl ⟨_, _, rfl, run_takeDeferred hK, ?_⟩⟩
    refine ⟨.bool false, ?_, ?_⟩
    · simp only [results]
      go_simp
    · exact ⟨by rw [HV.out], hbe⟩
end Go.Proofs.YteifllengcacbaaDoor

namespace Go.Proofs.YteifllengcacbaaDoor
open Go.RowKit Go.Deep
set_option linter.unusedVariables false

theorem vals_atW (zs : List Int) {j : Nat} (h : j < zs.length) : (vals zs)[j]? = some (.int .i64 (nth zs j)) := by
  rw [nth_lt h]; simp [vals, h]
theorem vals_setW (zs : List Int) (j : Nat) (y : Int) : (vals zs).set j (.int .i64 y) = vals (zs.set j y) := by simp [vals, List.map_set]
def RowW (W : World) (base g n cap : Nat) (zs : List Int) : Prop := W.ownsRow base 2 1 (.slice (some ⟨g, 0, none⟩) n cap) n (vals zs) ∧ zs.length = n
theorem RowW.own {W : World} {base g n cap : Nat} {zs : List Int} (h : RowW W base g n cap zs) : OwnI W base (.slice (some ⟨g, 0, none⟩) n cap) zs := by
  unfold OwnI; rw [h.2]; exact h.1
theorem RowW.of {W : World} {base g n cap : Nat} {zs : List Int} (h : OwnI W base (.slice (some ⟨g, 0, none⟩) n cap) zs) (hn : zs.length = n) : RowW W base g n cap zs := ⟨by
  unfold OwnI at h; rw [hn] at h; exact h, hn⟩
theorem RowW.cell {W : World} {base g n cap : Nat} {zs : List Int} (h : RowW W base g n cap zs) {j : Nat} (hj : j < n) : W.cell? ⟨g, j, none⟩ = some (.int .i64 (nth zs j)) := by
  rw [World.ownsRow.cellAt h.1 j (by omega), vals_atW _ (by rw [h.2]; exact hj)]
theorem RowW.fz {W : World} {base g n cap : Nat} {zs : List Int} (h : RowW W base g n cap zs) (j : Nat) : W.frozen? ⟨g, j, none⟩ = false := World.ownsRow.frozenAt h.1 j
theorem RowW.gl {W : World} {base g n cap : Nat} {zs : List Int} (h : RowW W base g n cap zs) : base ≤ g ∧ g < W.heap.size := World.ownsRow.lt h.1 g rfl
theorem RowW.put {W : World} {base g n cap : Nat} {zs : List Int} (h : RowW W base g n cap zs) (j : Nat) (v : Int) : RowW (W.setCell ⟨g, j, none⟩ (.int .i64 v)) base g n cap (zs.set j v) := by
  obtain ⟨h1, h2⟩ := World.ownsRow.stored h.1 j (.int .i64 v)
  rw [vals_setW] at h1
  exact ⟨h1, by simp [h.2]⟩
theorem RowW.step {W W' : World} {base g n cap : Nat} {zs : List Int} (h : RowW W base g n cap zs) (hb : Below W.heap.size W W') : RowW W' base g n cap zs := .of (OwnI.step h.own hb) h.2
theorem made_rowW (w : World) (m : Nat) (hm : m ≤ 7) : RowW (w.alloc (.cells (madeCells #[.int .i64 0] m) 2)) w.heap.size w.heap.size m m (List.replicate m 0) := by
  have h0 := World.rowIs_made w (.int .i64 0) m 2
  have hl : (List.replicate m (0 : Int)).length = m := List.length_replicate
  have h1 : (w.alloc (.cells (madeCells #[.int .i64 0] m) 2)).rowIs w.heap.size 2 (List.replicate m (0 : Int)).length (fun i => .int .i64 (nth (List.replicate m (0 : Int)) i)) := by
    rw [hl]
    obtain ⟨c, h1, h2, h3⟩ := h0
    exact ⟨c, h1, h2, fun i hi => by
      rw [h3 i hi]
      show some (Value.int .i64 0) = some (.int .i64 (nth (List.replicate m (0 : Int)) i))
      rw [nth_lt (by rw [hl]; exact hi)]; simp⟩
  have h2 := own_of_row h1 (by rw [hl]; unfold maxLen; omega)
  have h3 := RowW.of (n := (List.replicate m (0 : Int)).length) h2 rfl
  rw [hl] at h3
  exact h3
end Go.Proofs.YteifllengcacbaaDoor

namespace Go.Proofs.YteifllengcacbaaDoor
open Go.RowKit Go.Deep Go.Shelf
set_option linter.unusedVariables false

/-- The first holder that h is like, or h. -/
def firstTo (p : Nat → Bool) (h : Nat) : Nat → Nat
  | 0 => h
  | d + 1 => if p (h - (d + 1)) = true then h - (d + 1) else firstTo p h d
/-- The first k below h with p, or h. -/
def firstOf (p : Nat → Bool) (h : Nat) : Nat := firstTo p h h
theorem firstTo_is {p : Nat → Bool} {h : Nat} : ∀ d k, k ≤ h → h - k ≤ d → d ≤ h → (∀ l, h - d ≤ l → l < k → p l = false) → (k = h ∨ p k = true) → firstTo p h d = k
  | 0, k, hk, hd, _, _, _ => by simp [firstTo]; omega
  | d + 1, k, hk, hd, hdh, hl, hp => by
    unfold firstTo
    by_cases e : h - (d + 1) = k
    · rw [e]
      rcases hp with q | q
      · omega
      · rw [if_pos q]
    · rw [if_neg (by rw [hl _ (Nat.le_refl _) (by omega)]; simp)]
      exact firstTo_is d k hk (by omega) (by omega) (fun l h1 h2 => hl l (by omega) h2) hp
theorem firstOf_is {p : Nat → Bool} {h k : Nat} (hk : k ≤ h) (hl : ∀ l, l < k → p l = false) (hp : k = h ∨ p k = true) : firstOf p h = k :=
  firstTo_is h k hk (by omega) (Nat.le_refl _) (fun l _ h2 => hl l h2) hp
/-- The numbers of the first k holders, and the next number. -/
def alN (q : Nat → Bool) (m : Nat) : Nat → List Int × Nat
  | 0 => ([], 0)
  | h + 1 => if firstOf (fun l => alikeB q m l h) h < h then ((alN q m h).1 ++ [nth (alN q m h).1 (firstOf (fun l => alikeB q m l h) h)], (alN q m h).2) else ((alN q m h).1 ++ [((alN q m h).2 : Int)], (alN q m h).2 + 1)
theorem alN_len (q : Nat → Bool) (m : Nat) : ∀ h, (alN q m h).1.length = h
  | 0 => rfl
  | h + 1 => by
    unfold alN
    split <;> simp [alN_len q m h]
theorem alN_le (q : Nat → Bool) (m : Nat) : ∀ h, (alN q m h).2 ≤ h
  | 0 => Nat.le_refl _
  | h + 1 => by
    have := alN_le q m h
    unfold alN
    split
    · show (alN q m h).2 ≤ h + 1; omega
    · show (alN q m h).2 + 1 ≤ h + 1; omega
theorem alN_old {q : Nat → Bool} {m h k : Nat} (hk : k < h) (e : firstOf (fun l => alikeB q m l h) h = k) : alN q m (h + 1) = ((alN q m h).1 ++ [nth (alN q m h).1 k], (alN q m h).2) := by
  rw [alN, e, if_pos hk]
theorem alN_new {q : Nat → Bool} {m h : Nat} (e : firstOf (fun l => alikeB q m l h) h = h) : alN q m (h + 1) = ((alN q m h).1 ++ [((alN q m h).2 : Int)], (alN q m h).2 + 1) := by
  rw [alN, e, if_neg (Nat.lt_irrefl _)]
noncomputable def alOf (h : Int) (zss : List (List Int)) : List Int := if tell (FamOk h zss) = true then (alN (tabOf h zss) h.toNat h.toNat).1 else []
/-- Half done: the first numbers, then zeros. -/
def alMid (l : List Int) (m : Nat) : List Int := l ++ List.replicate (m - l.length) 0
theorem alMid_at {l : List Int} {m k : Nat} (hk : k < l.length) : nth (alMid l m) k = nth l k := by
  unfold alMid
  rw [nth_lt (by simp; omega), List.getElem_append_left hk, nth_lt hk]
theorem alMid_set {l : List Int} {m : Nat} (hl : l.length < m) (v : Int) : (alMid l m).set l.length v = alMid (l ++ [v]) m := by
  unfold alMid
  rw [List.set_append_right _ _ (Nat.le_refl _), Nat.sub_self, show m - l.length = (m - (l ++ [v]).length) + 1 by simp; omega, List.replicate_succ, List.set_cons_zero, List.append_assoc]
  rfl
theorem alMid_all {l : List Int} {m : Nat} (h : l.length = m) : alMid l m = l := by unfold alMid; rw [h, Nat.sub_self]; simp
set_option maxRecDepth 100000 in
set_option maxHeartbeats 4000000 in
theorem implAl_any (h : Int) (a : Option Addr) (zss : List (List Int)) (c : Nat) (w : World) (hr : Rows2 w a zss) (hl : Small2 zss) :
    Calls Tryd.prog 37 #[.agg #[.int .i64 h, .slice a zss.length c]] w (GivesIntsCode w (alOf h zss) (okCode h zss)) := by
  have hb1 := (Below.refl w.heap.size w).alloc (Nat.le_refl _) (.cells #[.int .i64 h, .slice a zss.length c] 26)
  have c0 : (w.alloc (.cells #[.int .i64 h, .slice a zss.length c] 26)).cell? ⟨w.heap.size, 0, none⟩ = some (.int .i64 h) := by simp
  have hlt0 : w.heap.size < (w.alloc (.cells #[.int .i64 h, .slice a zss.length c] 26)).heap.size := by simp
  have HR := Lib.hid (hr.step hb1)
  have HL := Lib.hid hl
  have HB := Lib.hid hb1
  clear hr hl hb1
  by_cases hf : FamOk h zss
  · have HFO := Lib.hid hf
    have hh1 : 1 ≤ h := hf.1.1
    have hh7 : h ≤ 7 := hf.1.2
    have HV := Lib.hid (show alOf h zss = (alN (tabOf h zss) h.toNat h.toNat).1 by rw [alOf, if_pos (tell_true hf)])
    have HCO := Lib.hid (show okCode h zss = 0 by rw [okCode, if_pos (tell_true hf)])
    clear hf
    obtain ⟨m, rfl⟩ : ∃ m : Nat, h = (m : Int) := ⟨h.toNat, by omega⟩
    rw [Int.toNat_natCast] at HV
    have m7 : m ≤ 7 := by omega
    have m1 : 1 ≤ m := by omega
    have hmk := run_make_row' (P := Tryd.prog) 28 2 (.int .i64 0) 8 Tryd.underlying28 Tryd.infoInt64 rfl .i64 .i64 m (by omega) (by omega)
    go_enter Tryd.func37, Tryd.ntmps37
    go_wp2_with fail
    refine (tableOf_any (m : Int) a zss c _ HR.out HL.out).mono ?_
    generalize w.alloc (.cells #[.int .i64 (m : Int), .slice a zss.length c] 26) = w1 at *
    rintro e w2 ⟨hy, -, hb⟩
    obtain ⟨T, rfl, hT, htab⟩ := hy HFO.out
    rw [Int.toNat_natCast] at htab
    have HTA := Lib.hid htab
    have HB2 := Lib.hid (chain HB.out hb)
    have p0 := (hb.cell (p := ⟨w.heap.size, 0, none⟩) hlt0).trans c0
    have hl2 : w.heap.size < w2.heap.size := Nat.lt_of_lt_of_le hlt0 hb.size
    clear htab hy hb c0
    generalize tabOf (m : Int) zss = q at *
    have HMK := Lib.hid (made_rowW w2 m m7)
    have hba := (Below.refl w2.heap.size w2).alloc (Nat.le_refl _) (.cells (madeCells #[.int .i64 0] m) 2)
    have HBA := Lib.hid hba
    have HTB := Lib.hid (HTA.out.step hba)
    clear hba
    go_wp2_with fail
    clear hmk p0
    generalize w2.alloc (.cells (madeCells #[.int .i64 0] m) 2) = w3 at *
    generalize hgb : w2.heap.size = gb at *
    have HGB := Lib.hid hgb
    clear hgb
    go_loopw [6, 7, 8, 18] (fun u q7 q8 i wr => ∃ h : Nat, h ≤ m ∧ i = .int .i64 (h : Nat) ∧ u = .int .i64 ((alN q m h).2 : Nat) ∧ RowW wr gb gb m m (alMid (alN q m h).1 m) ∧ Below gb w2 wr)
      (fun _ _ _ i _ => m - (intOf i).toNat)
    case atStart => exact ⟨0, Nat.zero_le _, rfl, rfl, by show RowW w3 gb gb m m (alMid [] m); unfold alMid; simpa using HMK.out, HBA.out⟩
    case round =>
      obtain ⟨h, hh, rfl, rfl, hrow, hbe⟩ := hrel
      have HROW := Lib.hid hrow
      have HBE := Lib.hid hbe
      have HTR := Lib.hid (HTA.out.step (show Below w2.heap.size w2 wr by rw [HGB.out]; exact hbe))
      have hsr := hbe.size
      have hlen := alN_len q m h
      have hun := alN_le q m h
      obtain ⟨l, hl⟩ : ∃ l, (alN q m h).1 = l := ⟨_, rfl⟩
      obtain ⟨u, hu⟩ : ∃ u, (alN q m h).2 = u := ⟨_, rfl⟩
      rw [hl] at HROW hlen
      rw [hu] at hun ⊢
      have HLN := Lib.hid hlen
      have HL9 := Lib.hid hl
      have HU9 := Lib.hid hu
      clear hrow hbe HMK HBA HTB hlen hl hu
      by_cases hlt : h < m
      · have hi0 : (h : Int) < (m : Int) := by omega
        go_wp2_with fail
        obtain ⟨wo, rfl⟩ : ∃ wo : World, wo = wr := ⟨_, rfl⟩
        go_loopw [8] (fun k wi => ∃ j : Nat, j ≤ h ∧ k = .int .i64 (j : Nat) ∧ (∀ l, l < j → alikeB q m l h = false) ∧ Below wo.heap.size wo wi)
          (fun k _ => h - (intOf k).toNat)
        case atStart => exact ⟨0, Nat.zero_le _, rfl, fun l hl => absurd hl (Nat.not_lt_zero _), Below.refl _ _⟩
        case round =>
          obtain ⟨j, hj, rfl, hall, hbi⟩ := hrel
          have HALL := Lib.hid hall
          have HBI := Lib.hid hbi
          have HTI := Lib.hid (HTR.out.step hbi)
          clear hall hbi
          by_cases hjh : j < h
          · have hj0 : (j : Int) < (h : Int) := by omega
            go_wp2_with fail
            refine (areAlike_any T m j h q wr HTI.out m7 (by omega) (by omega)).mono ?_
            rintro e w5 ⟨rfl, hb5⟩
            have HB5 := Lib.hid (chain HBI.out hb5)
            have hs5 := HB5.out.size
            clear hb5
            cases hal : alikeB q m j h with
            | false =>
              have HAF := Lib.hid hal
              clear hal
              go_wp2_with fail
              go_roundw
              case rel => exact ⟨j + 1, by omega, by go_num, fun l hl => by
                by_cases e : l = j
                · subst e; exact HAF.out
                · exact HALL.out l (by omega), HB5.out⟩
              case measure => simp [intOf]; omega
            | true =>
              have hrow5 := HROW.out.step HB5.out
              have x1 := hrow5.cell (j := j) (by omega)
              have x2 := hrow5.cell (j := h) hlt
              have f2 := hrow5.fz h
              have gl := hrow5.gl.2
              have HP := Lib.hid (hrow5.put h (nth (alMid l m) j))
              have HST := Lib.hid (alN_old hjh (firstOf_is (p := fun l => alikeB q m l h) hj HALL.out (.inr hal)))
              have HMS := Lib.hid (alMid_set (l := l) (m := m) (by rw [HLN.out]; exact hlt) (nth (alMid l m) j))
              have HMA := Lib.hid (alMid_at (l := l) (m := m) (k := j) (by rw [HLN.out]; exact hjh))
              clear hal hrow5
              generalize nth (alMid l m) j = z at *
              generalize nth (alMid l m) h = z2 at *
              go_wp2_with fail
              go_roundw
              case rel =>
                refine ⟨h + 1, by omega, by go_num, ?_, ?_, (HBE.out.trans (HB5.out.mono (by have := HGB.out; omega))).setCell (p := ⟨gb, h, none⟩) (Nat.le_refl _) _⟩
                · rw [HST.out]; show _ = Value.int .i64 (((alN q m h).2 : Nat) : Int); rw [HU9.out]
                · rw [HST.out]
                  show RowW _ gb gb m m (alMid ((alN q m h).1 ++ [nth (alN q m h).1 j]) m)
                  have h9 := HP.out
                  rw [HL9.out, ← HMA.out, ← HMS.out, HLN.out]
                  exact h9
              case measure => simp [intOf]; omega
          · have hj0 : ¬ (j : Int) < (h : Int) := by omega
            have hE : j = h := by omega
            subst hE
            have hrow5 := HROW.out.step HBI.out
            have x2 := hrow5.cell (j := j) hlt
            have f2 := hrow5.fz j
            have gl := hrow5.gl.2
            have hs5 := HBI.out.size
            have HP := Lib.hid (hrow5.put j (u : Int))
            have HST := Lib.hid (alN_new (firstOf_is (p := fun l => alikeB q m l j) (Nat.le_refl j) HALL.out (.inl rfl)))
            have HMS := Lib.hid (alMid_set (l := l) (m := m) (by rw [HLN.out]; exact hlt) (u : Int))
            clear hrow5
            generalize nth (alMid l m) j = z2 at *
            go_wp2_with fail
            go_roundw
            case rel =>
              refine ⟨j + 1, by omega, by go_num, ?_, ?_, (HBE.out.trans (HBI.out.mono (by have := HGB.out; omega))).setCell (p := ⟨gb, j, none⟩) (Nat.le_refl _) _⟩
              · rw [HST.out]; show _ = Value.int .i64 (((alN q m j).2 + 1 : Nat) : Int); rw [HU9.out]; go_num
              · rw [HST.out]
                show RowW _ gb gb m m (alMid ((alN q m j).1 ++ [(((alN q m j).2 : Nat) : Int)]) m)
                have h9 := HP.out
                rw [HL9.out, HU9.out, ← HMS.out, HLN.out]
                exact h9
            case measure => simp [intOf]; omega
      · have hi0 : ¬ (h : Int) < (m : Int) := by omega
        have hE : h = m := by omega
        subst hE
        go_wp2_with fail
        go_ret2
        refine ⟨⟨_, by rw [HCO.out]; rfl, ?_⟩, HB2.out.trans (HBE.out.mono (by omega))⟩
        have h9 := HROW.out.own
        rw [alMid_all HLN.out, ← HL9.out, ← HV.out] at h9
        exact h9.mono (by omega)
  · have HFO := Lib.hid hf
    have HV := Lib.hid (show alOf h zss = [] by rw [alOf, if_neg (by rw [tell_false hf]; simp)])
    have HCO := Lib.hid (show okCode h zss = 1 by rw [okCode, if_neg (by rw [tell_false hf]; simp)])
    clear hf
    go_enter Tryd.func37, Tryd.ntmps37
    go_wp2_with fail
    refine (tableOf_any h a zss c _ HR.out HL.out).mono ?_
    generalize w.alloc (.cells #[.int .i64 h, .slice a zss.length c] 26) = w1 at *
    rintro e w2 ⟨-, hn, hb⟩
    obtain rfl := hn HFO.out
    have HB2 := Lib.hid (chain HB.out hb)
    clear hn hb
    go_wp2_with fail
    go_ret2
    exact ⟨⟨_, by rw [HCO.out]; rfl, by rw [HV.out]; exact OwnI.nil _ _⟩, HB2.out⟩
end Go.Proofs.YteifllengcacbaaDoor

namespace Go.Proofs.YteifllengcacbaaDoor
open Go.RowKit Go.Deep Go.Joins
set_option linter.unusedVariables false

def thrB (k : Int) (x : Nat) : Bool := decide (k ≤ ((listOf x).length : Nat))
theorem rep_len (n : Nat) : (List.replicate n (1 : Int)).length = n := List.length_replicate
theorem thr_heavy {n : Nat} (h7 : n ≤ 7) (k : Int) {x : Nat} (hx : x < 2 ^ n) : heavy (List.replicate n 1) k x = thrB k x := by
  have h := ones_fact ⟨n, by omega⟩ ⟨x, by have := pow_128 h7; omega⟩ hx
  unfold heavy thrB
  rw [rep_len]
  rw [show wsum (List.replicate n 1) x n = ((listOf x).length : Nat) from h]
theorem thr_mono {n : Nat} (h7 : n ≤ 7) (k : Int) : Mono n (thrB k) := fun x y hx hy hs h => by
  rw [← thr_heavy h7 k hx] at h
  rw [← thr_heavy h7 k hy]
  exact heavy_mono (zs := List.replicate n 1) (fun i hi => by rw [nth_lt hi]; simp) k n x y hx hy hs h
theorem thrG {n : Nat} (k : Int) (w : World) (n1 : 1 ≤ n) (n7 : n ≤ 7) (k0 : 0 ≤ k) (k1 : k ≤ (n : Int) + 1) :
    Calls Tryd.prog 39 #[.int .i64 (n : Nat), .int .i64 k] w fun e w' => GF w' n (thrB k) e ∧ Below w.heap.size w w' := by
  have h := implThr_any (n : Int) k w
  rw [thrOf_yes ⟨⟨by omega, by omega⟩, k0, k1⟩, Int.toNat_natCast] at h
  exact h.mono fun e w' g => ⟨GF.of n1 n7 (thr_mono n7 k) g, g.below⟩
theorem wtdG {n : Nat} (a : Option Addr) (c : Nat) (k : Int) (w : World) (n1 : 1 ≤ n) (n7 : n ≤ 7) (k0 : 0 ≤ k) (k1 : k ≤ (n : Int) + 1) (hr : Ints w a (List.replicate n 1)) :
    Calls Tryd.prog 40 #[.slice a n c, .int .i64 k] w fun e w' => GF w' n (thrB k) e ∧ Below w.heap.size w w' := by
  have h := implWtd_any a (List.replicate n 1) c k w hr (by rw [rep_len]; omega)
  rw [wtdOf_yes (zs := List.replicate n 1) ⟨by rw [rep_len]; omega, by omega, fun i hi => by rw [nth_lt hi]; simp⟩, famOf_ones n7 k, rep_len] at h
  exact h.mono fun e w' g => ⟨GF.of n1 n7 (thr_mono n7 k) g, g.below⟩
theorem off_size : ∀ n : Nat, n < 8 → ∀ x : Nat, x < 128 → x < 2 ^ n → (listOf (2 ^ n - 1 - x)).length + (listOf x).length = n := by decide +kernel
theorem swp_size : ∀ g : Nat, g < 128 → ∀ i : Nat, i < 7 → ∀ j : Nat, j < 7 → (listOf (swpN i j g)).length = (listOf g).length := by decide +kernel
theorem swp_lt2 {m i j g : Nat} (hi : i < m) (hj : j < m) (hg : g < 2 ^ m) : swpN i j g < 2 ^ m := by
  unfold swpN
  split
  · exact hg
  · exact Nat.xor_lt_two_pow hg (Nat.or_lt_two_pow (Nat.pow_lt_pow_right (by decide) hi) (Nat.pow_lt_pow_right (by decide) hj))
theorem alike_of {m i j : Nat} {q : Nat → Bool} (h7 : m ≤ 7) : alikeB q m i j = true ↔ ∀ g, g < 2 ^ m → q g = q (swpN i j g) := by
  have h128 := pow_128 h7
  unfold alikeB
  rw [List.all_eq_true]
  constructor
  · intro h g hg
    have := h ⟨g, by omega⟩ ((mem_lex h7 _).2 hg)
    simpa using this
  · intro h g hg
    have := h g.val ((mem_lex h7 g).1 hg)
    simpa using this
theorem alN_zero {q : Nat → Bool} {m : Nat} (h : ∀ i j, i < j → j < m → alikeB q m i j = true) : ∀ k, k ≤ m → (alN q m k).1 = List.replicate k 0
  | 0, _ => rfl
  | 1, _ => by
    rw [alN_new (firstOf_is (Nat.le_refl 0) (fun l hl => absurd hl (Nat.not_lt_zero _)) (.inl rfl))]
    rfl
  | k + 2, hk => by
    have ih := alN_zero h (k + 1) (by omega)
    rw [alN_old (k := 0) (by omega) (firstOf_is (p := fun l => alikeB q m l (k + 1)) (Nat.zero_le _) (fun l hl => absurd hl (Nat.not_lt_zero _)) (.inr (h 0 (k + 1) (by omega) (by omega))))]
    show (alN q m (k + 1)).1 ++ [nth (alN q m (k + 1)).1 0] = _
    rw [ih, nth_lt (by simp), List.getElem_replicate]
    exact List.replicate_succ'.symm
/-- The numbers of a valid family's holders. -/
structure GA (w' : World) (m : Nat) (l : List Int) (e : Ending) : Prop where
  val : ∃ a c, e = .returned (.tuple #[.slice a m c, .int .i64 0]) ∧ Ints w' a l ∧ l.length = m
theorem alikeG {m : Nat} (a : Option Addr) (zss : List (List Int)) (c : Nat) (w : World) (h7 : m ≤ 7) (hf : FamOk (m : Int) zss) (hr : Rows2 w a zss) :
    Calls Tryd.prog 37 #[.agg #[.int .i64 (m : Nat), .slice a zss.length c]] w fun e w' => GA w' m (alN (tabOf (m : Int) zss) m m).1 e ∧ Below w.heap.size w w' := by
  have h := implAl_any (m : Int) a zss c w hr (fam_small h7 hf)
  rw [show okCode (m : Int) zss = 0 by unfold okCode; rw [if_pos (tell_true hf)], show alOf (m : Int) zss = (alN (tabOf (m : Int) zss) m m).1 by rw [alOf, if_pos (tell_true hf), Int.toNat_natCast]] at h
  refine h.mono fun e w' g => ⟨?_, g.below⟩
  obtain ⟨v, rfl, ho⟩ := g.val
  obtain ⟨a, c, rfl, hi, _⟩ := ho.ints
  rw [alN_len]
  exact ⟨a, c, rfl, hi, alN_len _ _ _⟩
set_option maxRecDepth 100000 in
theorem a2Zeros_any (a : Option Addr) (zs : List Int) (c n : Nat) (w : World) (h : Ints w a zs) (hn : zs.length = n) (hl : n ≤ 1000) (hz : ∀ i, i < n → nth zs i = 0) :
    Calls Tryd.prog 41 #[.slice a n c] w fun e w' => e = .returned (.bool true) ∧ w = w' := by
  have HZ := Lib.hid hz
  have HN := Lib.hid hn
  clear hz hn
  go_enter Tryd.func41, Tryd.ntmps41
  go_wp2_with fail
  go_loop [3] (fun i => ∃ k : Nat, i = .int .i64 k ∧ k ≤ n) (fun i => n - (intOf i).toNat)
  case atStart => exact ⟨0, rfl, Nat.zero_le _⟩
  case round =>
    obtain ⟨k, rfl, hk⟩ := hrel
    by_cases hlt : k < n
    · have hnn := HN.out
      rcases h with h | ⟨b, o, rfl, hc⟩
      · rw [h] at hnn; simp at hnn; omega
      have hcell := hc k (by omega)
      rw [HZ.out k hlt] at hcell
      have hi0 : (k : Int) < (n : Int) := by omega
      clear hc hnn
      go_wp2_with fail
      go_round
      case rel => exact ⟨k + 1, by go_num, by omega⟩
      case measure => simp [intOf]; omega
    · have hi0 : ¬ (k : Int) < (n : Int) := by omega
      go_wp2_with fail
      go_ret
      exact ⟨rfl, rfl⟩
end Go.Proofs.YteifllengcacbaaDoor

namespace Go.Proofs.YteifllengcacbaaDoor
open Go.RowKit Go.Deep Go.Joins
set_option linter.unusedVariables false

/-- What gives groups of m holders: those that q says. -/
structure GR (w' : World) (m : Nat) (q : Nat → Bool) (e : Ending) : Prop where
  val : ∃ a z c, e = .returned (.tuple #[.slice a z.length c, .int .i64 0]) ∧ (∀ zs, zs ∈ z ↔ ∃ x, x < 2 ^ m ∧ q x = true ∧ zs = listOf x) ∧ z.length ≤ 128 ∧ Rows2 w' a z
theorem mem_pick {m : Nat} (h7 : m ≤ 7) {q : Nat → Bool} {zs : List Int} : zs ∈ pickOf q (lexAll m) ↔ ∃ x, x < 2 ^ m ∧ q x = true ∧ zs = listOf x := by
  unfold pickOf
  rw [List.mem_map]
  constructor
  · rintro ⟨g, hg, rfl⟩
    rw [List.mem_filter] at hg
    exact ⟨g.val, (mem_lex h7 g).1 hg.1, hg.2, rfl⟩
  · rintro ⟨x, hx, hl, rfl⟩
    have h128 := pow_128 h7
    exact ⟨⟨x, by omega⟩, List.mem_filter.2 ⟨(mem_lex h7 _).2 hx, hl⟩, rfl⟩
theorem lex_all_len : ∀ m : Fin 8, (lexAll m.val).length ≤ 128 := by decide +kernel
theorem pick_len128 {m : Nat} (h7 : m ≤ 7) (q : Nat → Bool) : (pickOf q (lexAll m)).length ≤ 128 := by
  have h := lex_all_len ⟨m, by omega⟩
  exact Nat.le_trans (pickOf_len q _) h
theorem GR.of {W w' : World} {m : Nat} {q : Nat → Bool} {e : Ending} (h7 : m ≤ 7) (h : GivesRY W (pickOf q (lexAll m)) 0 e w') : GR w' m q e := by
  obtain ⟨v, us, rfl, ho⟩ := h.val
  obtain ⟨a, c, hv, hr⟩ := ho.rows2
  subst hv
  exact ⟨a, _, c, rfl, fun zs => mem_pick h7, pick_len128 h7 q, hr⟩
theorem okCode_yes {h : Int} {zss : List (List Int)} (k : FamOk h zss) : okCode h zss = 0 := by unfold okCode; rw [if_pos (tell_true k)]
theorem blockedG {m : Nat} (a : Option Addr) (zss : List (List Int)) (c : Nat) (w : World) (h7 : m ≤ 7) (hf : FamOk (m : Int) zss) (hr : Rows2 w a zss) :
    Calls Tryd.prog 15 #[.agg #[.int .i64 (m : Nat), .slice a zss.length c]] w fun e w' => GR w' m (mostB m (tblAt zss zss.length)) e ∧ Below w.heap.size w w' := by
  have h := implGb_any (m : Int) a zss c w hr (fam_small h7 hf)
  rw [okCode_yes hf, show gbOf (m : Int) zss = pickOf (mostB m (tblAt zss zss.length)) (lexAll m) by unfold gbOf; rw [if_pos (tell_true hf), Int.toNat_natCast]] at h
  exact h.mono fun e w' g => ⟨GR.of h7 g, g.below⟩
theorem openingG {m : Nat} (a : Option Addr) (zss : List (List Int)) (c : Nat) (w : World) (h7 : m ≤ 7) (hf : FamOk (m : Int) zss) (hr : Rows2 w a zss) :
    Calls Tryd.prog 16 #[.agg #[.int .i64 (m : Nat), .slice a zss.length c]] w fun e w' => GR w' m (tblAt zss zss.length) e ∧ Below w.heap.size w w' := by
  have h := implOg_any (m : Int) a zss c w hr (fam_small h7 hf)
  rw [okCode_yes hf, show ogOf (m : Int) zss = pickOf (tblAt zss zss.length) (lexAll m) by unfold ogOf; rw [if_pos (tell_true hf), Int.toNat_natCast]] at h
  exact h.mono fun e w' g => ⟨GR.of h7 g, g.below⟩
theorem most_iff {m : Nat} {q : Nat → Bool} {x : Nat} : mostB m q x = true ↔ q x = false ∧ ∀ i, i < m → x.testBit i = false → q (addOne x i) = true := by
  unfold mostB
  rw [Bool.and_eq_true, List.all_eq_true, Bool.not_eq_true']
  constructor
  · rintro ⟨h1, h2⟩
    refine ⟨h2, fun i hi hb => ?_⟩
    have := h1 i (List.mem_range.2 hi)
    rw [hb] at this
    simpa using this
  · rintro ⟨h1, h2⟩
    refine ⟨fun i hi => ?_, h1⟩
    cases hb : x.testBit i with
    | true => rfl
    | false => simpa using h2 i (List.mem_range.1 hi) hb
/-- Above what does not open there is a greatest blocked group. -/
theorem most_above {m : Nat} {q : Nat → Bool} (d : Nat) : ∀ x, x < 2 ^ m → 2 ^ m - x ≤ d → q x = false → ∃ y, y < 2 ^ m ∧ mostB m q y = true ∧ Inb x y := by
  induction d with
  | zero => intro x hx hd _; omega
  | succ d ih =>
    intro x hx hd hq
    by_cases hm : mostB m q x = true
    · exact ⟨x, hx, hm, Inb.refl x⟩
    · obtain ⟨i, hi, hb, ha⟩ : ∃ i, i < m ∧ x.testBit i = false ∧ q (addOne x i) = false := by
        refine Classical.byContradiction fun hn => hm (most_iff.2 ⟨hq, fun i hi hb => ?_⟩)
        cases ha : q (addOne x i) with
        | true => rfl
        | false => exact absurd ⟨i, hi, hb, ha⟩ hn
      have h1 := addOne_lt hx hi
      have hsub : Inb x (addOne x i) := fun j hj => by unfold addOne; rw [Nat.testBit_or, hj]; rfl
      have hne : addOne x i ≠ x := fun e => by
        have : (addOne x i).testBit i = true := by unfold addOne; rw [Nat.testBit_or, Nat.testBit_two_pow_self]; simp
        rw [e, hb] at this; cases this
      have hge : x ≤ addOne x i := by unfold addOne; exact Nat.left_le_or
      obtain ⟨y, h3, h4, h5⟩ := ih (addOne x i) h1 (by omega) ha
      exact ⟨y, h3, h4, hsub.trans h5⟩
end Go.Proofs.YteifllengcacbaaDoor

namespace Go.Proofs.YteifllengcacbaaDoor
open Go.RowKit Go.Deep
set_option linter.unusedVariables false

theorem mask_fact_i64 : ∀ n : Nat, n ≤ 7 → wrap64 (wrap64 ((2 : Int) ^ n) - 1) = ((2 ^ n - 1 : Nat) : Int) := by decide +kernel
theorem mask_i64 {h : Int} (h1 : 1 ≤ h) (h2 : h ≤ 7) : wrap64 (wrap64 ((2 : Int) ^ h.toNat) - 1) = ((2 ^ h.toNat - 1 : Nat) : Int) := mask_fact_i64 h.toNat (by omega)
theorem mask_fact_u64 : ∀ n : Nat, n ≤ 7 → IntKind.u64.wrap (IntKind.u64.wrap ((2 : Int) ^ n) - 1) = ((2 ^ n - 1 : Nat) : Int) := by decide +kernel
set_option maxRecDepth 100000 in
theorem allHolders_any (h : Int) (w : World) (h1 : 0 ≤ h) (h2 : h ≤ 7) : Calls Tryd.prog 68 #[.int .i64 h] w fun e w' => e = .returned (.int .u64 ((2 ^ h.toNat - 1 : Nat) : Int)) ∧ w = w' := by
  have hm := Lib.hid (mask_fact_u64 h.toNat (by omega))
  go_enter Tryd.func68, Tryd.ntmps68
  go_wp2
  go_ret
  refine ⟨?_, rfl⟩
  rw [← hm.out]
  rfl

set_option maxRecDepth 100000 in
set_option maxHeartbeats 800000 in
theorem implVeto_any (h : Int) (a : Option Addr) (zss : List (List Int)) (c : Nat) (w : World) (hr : Rows2 w a zss) (hs : Small2 zss) :
    Calls Tryd.prog 36 #[.agg #[.int .i64 h, .slice a zss.length c]] w (GivesIntsCode w (vetoOf h zss) (okCode h zss)) := by
  have hb1 := (Below.refl w.heap.size w).alloc (Nat.le_refl _) (.cells #[.int .i64 h, .slice a zss.length c] 26)
  have hR1 := Lib.hid (hr.step hb1)
  have hl1 : zss.length ≤ 1048576 := hs.1
  have HS := Lib.hid hs
  have c0 : (w.alloc (.cells #[.int .i64 h, .slice a zss.length c] 26)).cell? ⟨w.heap.size, 0, none⟩ = some (.int .i64 h) := by simp
  clear hr hs
  cases hf : tell (FamOk h zss) with
  | false =>
    have HF := Lib.hid hf
    clear hf c0
    go_enter Tryd.func36, Tryd.ntmps36
    go_wp2_with fail
    refine (leastSets_any h a zss c _ hR1.out HS.out).mono ?_
    generalize w.alloc (.cells #[.int .i64 h, .slice a zss.length c] 26) = w1 at *
    rintro e w2 ⟨⟨v, rfl, _⟩, hb⟩
    rw [HF.out]
    have hb2 := chain hb1 hb
    clear hb hb1
    go_wp2_with fail
    go_ret2
    exact ⟨⟨_, by rw [okCode, HF.out]; rfl, by rw [vetoOf, HF.out]; exact OwnI.nil _ _⟩, hb2⟩
  | true =>
    have hfam := of_tell hf
    have HF := Lib.hid hf
    have HFam := Lib.hid hfam
    have hh7 : h ≤ 7 := hfam.1.2
    have hh1 : 1 ≤ h := hfam.1.1
    clear hf hfam
    go_enter Tryd.func36, Tryd.ntmps36
    go_wp2_with fail
    refine (leastSets_any h a zss c _ hR1.out HS.out).mono ?_
    generalize w.alloc (.cells #[.int .i64 h, .slice a zss.length c] 26) = w1 at *
    rintro e w2 ⟨⟨v, rfl, hv⟩, hb⟩
    rw [HF.out]
    have hv' := hv HFam.out
    obtain ⟨a2, c2, rfl, hsets, hlen⟩ := Sets.of_owns (l := bitsUpTo zss zss.length) (by rw [bitsUpTo_len]; exact hv')
    have HSE := Lib.hid hsets
    have HB2 := Lib.hid (chain hb1 hb)
    replace c0 := cell_step hb c0
    have HLN := Lib.hid (bitsUpTo_len zss zss.length)
    clear hb hb1 hv hv' hsets
    generalize hL : bitsUpTo zss zss.length = L at *
    have HL := Lib.hid hL
    clear hL
    go_wp2_with fail
    refine (allHolders_any h w2 (by omega) hh7).mono ?_
    rintro e w' ⟨rfl, rfl⟩
    go_wp2_with fail
    go_loop [6, 21] (fun g i => ∃ k : Nat, k ≤ L.length ∧ i = .int .i64 k ∧ g = .int .u64 (andTo h zss k : Nat))
      (fun _ i => L.length - (intOf i).toNat)
    case atStart => exact ⟨0, Nat.zero_le _, rfl, rfl⟩
    case round =>
      obtain ⟨k, hk, rfl, rfl⟩ := hrel
      by_cases hlt : k < L.length
      · rcases HSE.out with h0 | ⟨b, o, rfl, hc⟩
        · rw [h0] at hlt; exact absurd hlt (Nat.not_lt_zero _)
        have g1 := hc k hlt
        have hi0 : (k : Int) < (L.length : Int) := by omega
        have hkz := Lib.hid (show k < zss.length by rw [HLN.out] at hlt; exact hlt)
        have HG := Lib.hid (HFam.out.2.1 k hkz.out).1
        have ho := andTo_lt (zss := zss) hh1 hh7 k
        have hbt := bitsOf_lt HG.out hh7
        have hnk := Lib.hid (show nthN L k = bitsOf (nthL zss k) by rw [← HL.out]; exact bitsUpTo_nth _ hkz.out)
        clear hc
        go_wp2_with fail
        go_round
        case rel => exact ⟨k + 1, by omega, by go_num, by rw [hnk.out, u64_and_nat _ _ (by omega) (by omega)]; rfl⟩
        case measure => simp [intOf]; omega
      · have HE := Lib.hid (show k = zss.length by have := HLN.out; omega)
        go_wp2_with fail
        refine (list_any (andTo h zss k) w2 (andTo_lt hh1 hh7 k)).mono ?_
        rintro e w3 ⟨⟨v, rfl, hv⟩, hb3⟩
        have HV := Lib.hid hv
        have HB3 := Lib.hid hb3
        clear hv hb3
        go_wp2_with fail
        go_ret2
        have e1 : okCode h zss = 0 := by rw [okCode, HF.out]; rfl
        have e2 : vetoOf h zss = listOf (andTo h zss k) := by rw [vetoOf, HF.out, HE.out]; rfl
        rw [e1, e2]
        exact GivesInts.code HV.out HB2.out.size (chain HB2.out HB3.out) 0
end Go.Proofs.YteifllengcacbaaDoor

namespace Go.Proofs.YteifllengcacbaaDoor
open Go.RowKit Go.Deep
set_option linter.unusedVariables false
namespace Worth

theorem count_turn {n : Nat} (f : Nat → Nat) (hf : ∀ x, x < n → f x < n) (hff : ∀ x, x < n → f (f x) = x) (p : Nat → Bool) : ((List.range n).filter fun x => p (f x)).length = ((List.range n).filter p).length := by
  have hp : ((List.range n).map f).Perm (List.range n) := by
    refine (List.perm_ext_iff_of_nodup ?_ List.nodup_range).2 fun a => ?_
    · unfold List.Nodup
      rw [List.pairwise_map]
      refine List.Pairwise.imp_of_mem (fun {a b} ha hb hab e => hab ?_) (List.nodup_range (n := n))
      rw [← hff a (List.mem_range.1 ha), ← hff b (List.mem_range.1 hb), e]
    · rw [List.mem_map, List.mem_range]
      constructor
      · rintro ⟨x, hx, rfl⟩
        exact hf x (List.mem_range.1 hx)
      · exact fun h => ⟨f a, List.mem_range.2 (hf a h), hff a h⟩
  have h2 := (hp.filter p).length_eq
  rw [List.filter_map, List.length_map] at h2
  exact h2
theorem filter_split (l : List Nat) (a c : Nat → Bool) : (l.filter a).length = (l.filter fun x => a x && c x).length + (l.filter fun x => a x && !c x).length := by
  induction l with
  | nil => rfl
  | cons x t ih =>
    cases ha : a x <;> cases hc : c x <;> simp [ha, hc] <;> omega
theorem count_congr {n : Nat} {p q : Nat → Bool} (h : ∀ x, x < n → p x = q x) : ((List.range n).filter p).length = ((List.range n).filter q).length := by
  rw [List.filter_congr fun x hx => h x (List.mem_range.1 hx)]
/-- How many groups of a size there are, as the law counts them. -/
def chs (n : Nat) : Nat → Nat
  | 0 => 1
  | k + 1 => chs n k * (n - k) / (k + 1)
theorem chs_fact : ∀ m : Nat, m < 6 → ∀ k : Nat, k < 7 → k ≤ m → cntR (fun _ => true) (2 ^ m) k = chs m k := by decide +kernel
theorem chs_le : ∀ m : Nat, m < 6 → ∀ k : Nat, k < 8 → chs m k ≤ 10 := by decide +kernel
theorem cnt_dual {m : Nat} (m5 : m ≤ 5) (z : List (List Int)) {k : Nat} (hk : k ≤ m) : cntR (tblAt z z.length) (2 ^ m) k + cntR (dualB m z) (2 ^ m) (m - k) = chs m k := by
  have h128 := pow_128 (m := m) (by omega)
  have h1 : cntR (dualB m z) (2 ^ m) (m - k) = cntR (fun y => !tblAt z z.length y) (2 ^ m) k := by
    unfold cntR
    rw [← count_turn (n := 2 ^ m) (fun x => 2 ^ m - 1 - x) (fun x hx => by omega) (fun x hx => by omega) (hits (fun y => !tblAt z z.length y) k)]
    refine count_congr fun x hx => ?_
    have ho := off_size m (by omega) x (by omega) hx
    unfold hits dualB
    have e : ((listOf x).length == m - k) = ((listOf (2 ^ m - 1 - x)).length == k) := by
      rw [Bool.eq_iff_iff, beq_iff_eq, beq_iff_eq]; omega
    rw [e]
  have h2 := filter_split (List.range (2 ^ m)) (hits (fun _ => true) k) (tblAt z z.length)
  have h3 : ((List.range (2 ^ m)).filter fun x => hits (fun _ => true) k x && tblAt z z.length x).length = cntR (tblAt z z.length) (2 ^ m) k := count_congr fun x _ => by unfold hits; rw [Bool.true_and, Bool.and_comm]
  have h4 : ((List.range (2 ^ m)).filter fun x => hits (fun _ => true) k x && !tblAt z z.length x).length = cntR (fun y => !tblAt z z.length y) (2 ^ m) k := count_congr fun x _ => by unfold hits; rw [Bool.true_and, Bool.and_comm]
  have h5 : ((List.range (2 ^ m)).filter (hits (fun _ => true) k)).length = chs m k := chs_fact m (by omega) k (by omega) hk
  omega
/-- The sum of the first k. -/
def sumTo (l : List Int) : Nat → Int
  | 0 => 0
  | k + 1 => sumTo l k + nth l k
theorem sum_sizes {m : Nat} (h7 : m ≤ 7) (p : Nat → Bool) : ∀ k, k ≤ m + 1 → sumTo (cntList p m) k = (((List.range (2 ^ m)).filter fun x => p x && decide ((listOf x).length < k)).length : Nat)
  | 0, _ => by
    rw [List.filter_eq_nil_iff.2 (fun x _ => by simp)]; rfl
  | k + 1, hk => by
    unfold sumTo
    rw [sum_sizes h7 p k (by omega), cntList_nth p (by omega)]
    have h := filter_split (List.range (2 ^ m)) (fun x => p x && decide ((listOf x).length < k + 1)) (fun x => decide ((listOf x).length < k))
    have h1 : ((List.range (2 ^ m)).filter fun x => (p x && decide ((listOf x).length < k + 1)) && decide ((listOf x).length < k)).length = ((List.range (2 ^ m)).filter fun x => p x && decide ((listOf x).length < k)).length := count_congr fun x _ => by
      rw [Bool.and_assoc, ← Bool.decide_and]
      congr 1
      exact decide_eq_decide.2 ⟨fun q => q.2, fun q => ⟨by omega, q⟩⟩
    have h2 : ((List.range (2 ^ m)).filter fun x => (p x && decide ((listOf x).length < k + 1)) && !decide ((listOf x).length < k)).length = cntR p (2 ^ m) k := count_congr fun x _ => by
      unfold hits
      rw [Bool.and_assoc]
      congr 1
      rw [Bool.eq_iff_iff, Bool.and_eq_true, decide_eq_true_eq, Bool.not_eq_true', decide_eq_false_iff_not, beq_iff_eq]
      omega
    omega
theorem pick_count {m : Nat} (h7 : m ≤ 7) (p : Nat → Bool) : (pickOf p (lexAll m)).length = ((List.range (2 ^ m)).filter p).length := by
  have h1 := List.isPerm_iff.1 (lex_perm_fact ⟨m, by omega⟩)
  have h2 := (h1.filter p).length_eq
  rw [List.filter_map, List.length_map] at h2
  unfold pickOf
  rw [List.length_map]
  exact h2
theorem sum_all {m : Nat} (h7 : m ≤ 7) (p : Nat → Bool) : sumTo (cntList p m) (m + 1) = ((pickOf p (lexAll m)).length : Nat) := by
  rw [sum_sizes h7 p (m + 1) (Nat.le_refl _), pick_count h7 p]
  congr 1
  refine count_congr fun x hx => ?_
  have := size_fact m h7 x (by have := pow_128 h7; omega) hx
  rw [decide_eq_true (by omega), Bool.and_true]
theorem least_has {m : Nat} {z : List (List Int)} (h7 : m ≤ 7) (hf : FamOk (m : Int) z) (Q : Nat → Prop) : (∃ i, i < z.length ∧ Q (bitsOf (nthL z i))) ↔ ∃ x, x < 2 ^ m ∧ leastB m (tblAt z z.length) x = true ∧ Q x := by
  have hz := fam_of_tbl h7 hf
  have h128 := pow_128 h7
  constructor
  · rintro ⟨i, hi, hq⟩
    have hm : nthL z i ∈ famOf m (tblAt z z.length) := by rw [← hz, nthL_lt hi]; exact List.getElem_mem _
    obtain ⟨x, hx, hl, e⟩ := (mem_fam h7).1 hm
    rw [e, bits_list x (by omega)] at hq
    exact ⟨x, hx, hl, hq⟩
  · rintro ⟨x, hx, hl, hq⟩
    have hm : listOf x ∈ z := by rw [hz]; exact (mem_fam h7).2 ⟨x, hx, hl, rfl⟩
    obtain ⟨i, hi, e⟩ := List.getElem_of_mem hm
    refine ⟨i, hi, ?_⟩
    rw [nthL_lt hi, e, bits_list x (by omega)]
    exact hq
theorem mem_bits {y h : Nat} (hy : y < 128) : (h : Int) ∈ listOf y ↔ y.testBit h = true := by
  have := bits_has (grp_list (m := 7) (by omega) hy) h
  rw [bits_list y hy] at this
  exact this.symm
theorem or_bit (z : List (List Int)) (h : Nat) : ∀ k, (orTo z k).testBit h = true ↔ ∃ i, i < k ∧ (bitsOf (nthL z i)).testBit h = true
  | 0 => by simp [orTo]
  | k + 1 => by
    unfold orTo
    rw [Nat.testBit_or, Bool.or_eq_true, or_bit z h k]
    constructor
    · rintro (⟨i, hi, q⟩ | q)
      · exact ⟨i, by omega, q⟩
      · exact ⟨k, by omega, q⟩
    · rintro ⟨i, hi, q⟩
      by_cases e : i = k
      · subst e; exact .inr q
      · exact .inl ⟨i, by omega, q⟩
theorem and_bit (m : Nat) (z : List (List Int)) (h : Nat) : ∀ k, (andTo (m : Int) z k).testBit h = true ↔ h < m ∧ ∀ i, i < k → (bitsOf (nthL z i)).testBit h = true
  | 0 => by
    unfold andTo
    rw [Int.toNat_natCast, Nat.testBit_two_pow_sub_one, decide_eq_true_eq]
    exact ⟨fun q => ⟨q, fun i hi => absurd hi (Nat.not_lt_zero _)⟩, fun q => q.1⟩
  | k + 1 => by
    unfold andTo
    rw [Nat.testBit_and, Bool.and_eq_true, and_bit m z h k]
    constructor
    · rintro ⟨⟨q, q1⟩, q2⟩
      refine ⟨q, fun i hi => ?_⟩
      by_cases e : i = k
      · subst e; exact q2
      · exact q1 i (by omega)
    · rintro ⟨q, q1⟩
      exact ⟨⟨q, fun i hi => q1 i (by omega)⟩, q1 k (by omega)⟩
theorem need_iff {m : Nat} {z : List (List Int)} (h7 : m ≤ 7) (hf : FamOk (m : Int) z) {h : Nat} (hh : h < m) : (h : Int) ∈ needOf (m : Int) z ↔ 0 < swR (tblAt z z.length) (2 ^ m) h := by
  have h128 := pow_128 h7
  have hz := orTo_lt hf.2.1 hf.1.2 z.length (Nat.le_refl _)
  rw [needOf, if_pos (tell_true hf), mem_bits hz, or_bit, least_has h7 hf (fun x => x.testBit h = true)]
  unfold swR
  rw [List.length_filter_pos_iff]
  constructor
  · rintro ⟨x, hx, hl, hb⟩
    obtain ⟨l1, l2⟩ := leastB_iff.1 hl
    have hd := l2 h hh hb
    have hle := dropOne_le x h
    refine ⟨dropOne x h, List.mem_range.2 (by omega), ?_⟩
    have e : addOne (dropOne x h) h = x := eq_of_bits fun i => by
      unfold addOne
      rw [Nat.testBit_or, Bool.or_eq_true, Nat.testBit_two_pow, decide_eq_true_eq, drop_bit (by omega) (by omega)]
      constructor
      · rintro (q | q)
        · exact q.1
        · subst q; exact hb
      · intro q
        by_cases e : h = i
        · exact .inr e
        · exact .inl ⟨q, fun e' => e e'.symm⟩
    unfold swing
    rw [e, hd, l1]; rfl
  · rintro ⟨x, hx, hs⟩
    have hx := List.mem_range.1 hx
    unfold swing at hs
    rw [Bool.and_eq_true, Bool.not_eq_true'] at hs
    obtain ⟨y, hy, hl, hin⟩ := least_below h7 (addOne x h) (addOne_lt hx hh) hs.2
    refine ⟨y, hy, hl, ?_⟩
    refine Classical.byContradiction fun hb => ?_
    have hyx : Inb y x := fun i hi => by
      have := hin i hi
      unfold addOne at this
      rw [Nat.testBit_or, Bool.or_eq_true, Nat.testBit_two_pow, decide_eq_true_eq] at this
      rcases this with q | q
      · exact q
      · subst q; exact absurd hi hb
    have := tbl_mono m z z.length y x hy hx hyx (leastB_iff.1 hl).1
    rw [hs.1] at this; cases this
theorem veto_iff {m : Nat} {z : List (List Int)} (h7 : m ≤ 7) (hf : FamOk (m : Int) z) {h : Nat} (hh : h < m) : (h : Int) ∈ vetoOf (m : Int) z ↔ ∀ x, x < 2 ^ m → tblAt z z.length x = true → x.testBit h = true := by
  have hz := andTo_lt (zss := z) hf.1.1 hf.1.2 z.length
  rw [vetoOf, if_pos (tell_true hf), mem_bits hz, and_bit]
  constructor
  · rintro ⟨_, q⟩ x hx hp
    obtain ⟨y, hy, hl, hin⟩ := least_below h7 x hx hp
    refine Classical.byContradiction fun hb => ?_
    obtain ⟨i, hi, hq⟩ := (least_has h7 hf (fun x => ¬ x.testBit h = true)).2 ⟨y, hy, hl, fun h9 => hb (hin h h9)⟩
    exact hq (q i hi)
  · intro q
    refine ⟨hh, fun i hi => Classical.byContradiction fun hb => ?_⟩
    obtain ⟨x, hx, hl, hq⟩ := (least_has h7 hf (fun x => ¬ x.testBit h = true)).1 ⟨i, hi, hb⟩
    exact hq (q x hx (leastB_iff.1 hl).1)
theorem swp_twice : ∀ g : Nat, g < 128 → ∀ i : Nat, i < 7 → ∀ j : Nat, j < 7 → swpN i j (swpN i j g) = g := by decide +kernel
theorem swp_add : ∀ g : Nat, g < 128 → ∀ i : Nat, i < 7 → ∀ j : Nat, j < 7 → addOne (swpN i j g) j = swpN i j (addOne g i) := by decide +kernel
/-- Who are alike swing as often. -/
theorem alike_swings {m i j : Nat} {p : Nat → Bool} (h7 : m ≤ 7) (hi : i < m) (hj : j < m) (h : ∀ g, g < 2 ^ m → p g = p (swpN i j g)) : swR p (2 ^ m) i = swR p (2 ^ m) j := by
  have h128 := pow_128 h7
  unfold swR
  rw [← count_turn (n := 2 ^ m) (swpN i j) (fun x hx => swp_lt2 hi hj hx) (fun x hx => swp_twice x (by omega) i (by omega) j (by omega)) (swing p j)]
  refine count_congr fun x hx => ?_
  unfold swing
  rw [← h x hx, swp_add x (by omega) i (by omega) j (by omega), ← h _ (addOne_lt hx hi)]
theorem firstTo_sat {p : Nat → Bool} {h : Nat} : ∀ d, firstTo p h d < h → p (firstTo p h d) = true
  | 0 => fun hl => by unfold firstTo at hl; omega
  | d + 1 => fun hl => by
    unfold firstTo at hl ⊢
    split at hl
    · rename_i e; rw [if_pos e]; exact e
    · rename_i e; rw [if_neg e]; exact firstTo_sat d hl
theorem firstOf_sat {p : Nat → Bool} {h : Nat} (hl : firstOf p h < h) : p (firstOf p h) = true := firstTo_sat h hl
/-- Equal numbers among those of alike holders: what alike holders share, they share. -/
theorem alN_same {q : Nat → Bool} {m : Nat} {F : Nat → Nat} (hF : ∀ k h, k < h → h < m → alikeB q m k h = true → F k = F h) : ∀ n, n ≤ m → (∀ i, i < n → nth (alN q m n).1 i < ((alN q m n).2 : Int)) ∧ ∀ i j, i < n → j < n → nth (alN q m n).1 i = nth (alN q m n).1 j → F i = F j
  | 0, _ => ⟨fun i hi => absurd hi (Nat.not_lt_zero _), fun i j hi _ _ => absurd hi (Nat.not_lt_zero _)⟩
  | h + 1, hm => by
    obtain ⟨i1, i2⟩ := alN_same hF h (by omega)
    have hlen := alN_len q m h
    have key : ∀ v i, i < h → nth ((alN q m h).1 ++ [v]) i = nth (alN q m h).1 i := fun v i hi => by
      rw [nth_lt (by simp; omega), nth_lt (by omega), List.getElem_append_left (by omega)]
    have last : ∀ v, nth ((alN q m h).1 ++ [v]) h = v := fun v => by
      rw [nth_lt (by simp; omega), List.getElem_append_right (by omega)]; simp [hlen]
    unfold alN
    by_cases hk : firstOf (fun l => alikeB q m l h) h < h
    · rw [if_pos hk]
      have ha : alikeB q m (firstOf (fun l => alikeB q m l h) h) h = true := firstOf_sat (p := fun l => alikeB q m l h) hk
      generalize firstOf (fun l => alikeB q m l h) h = k at *
      have hFk := hF k h hk (by omega) ha
      dsimp only
      refine ⟨fun i hi => ?_, fun i j hi hj e => ?_⟩
      · by_cases e : i = h
        · subst e; rw [last]; exact i1 k hk
        · rw [key _ i (by omega)]; exact i1 i (by omega)
      · by_cases e1 : i = h <;> by_cases e2 : j = h
        · rw [e1, e2]
        · subst e1
          rw [last, key _ j (by omega)] at e
          rw [← hFk]; exact i2 k j hk (by omega) e
        · subst e2
          rw [last, key _ i (by omega)] at e
          rw [← hFk]; exact i2 i k (by omega) hk e
        · rw [key _ i (by omega), key _ j (by omega)] at e
          exact i2 i j (by omega) (by omega) e
    · rw [if_neg hk]
      dsimp only
      refine ⟨fun i hi => ?_, fun i j hi hj e => ?_⟩
      · by_cases e : i = h
        · subst e; rw [last]; omega
        · rw [key _ i (by omega)]; have := i1 i (by omega); omega
      · by_cases e1 : i = h <;> by_cases e2 : j = h
        · rw [e1, e2]
        · subst e1
          rw [last, key _ j (by omega)] at e
          have := i1 j (by omega); omega
        · subst e2
          rw [last, key _ i (by omega)] at e
          have := i1 i (by omega); omega
        · rw [key _ i (by omega), key _ j (by omega)] at e
          exact i2 i j (by omega) (by omega) e
/-- As the law asks it. -/
theorem same_swings {m : Nat} {z : List (List Int)} (h7 : m ≤ 7) {h k : Nat} (hh : h < m) (hk : k < m) (e : nth (alN (tabOf (m : Int) z) m m).1 h = nth (alN (tabOf (m : Int) z) m m).1 k) : swR (tblAt z z.length) (2 ^ m) h = swR (tblAt z z.length) (2 ^ m) k :=
  (alN_same (F := fun i => swR (tblAt z z.length) (2 ^ m) i) (fun a b hab hb ha => alike_swings h7 (by omega) hb fun g hg => by
    rw [← tabOf_at h7 hg, ← tabOf_at h7 (swp_lt2 (by omega) hb hg)]
    exact (alike_of h7).1 ha g hg) m (Nat.le_refl _)).2 h k hh hk e
end Worth
end Go.Proofs.YteifllengcacbaaDoor

namespace Go.Proofs.YteifllengcacbaaDoor
open Go.RowKit Go.Deep
set_option linter.unusedVariables false
namespace Worth

/-- A list of numbers and a code 0. -/
structure GL (w' : World) (l : List Int) (n : Nat) (e : Ending) : Prop where
  val : ∃ a c, e = .returned (.tuple #[.slice a n c, .int .i64 0]) ∧ Ints w' a l ∧ l.length = n
theorem GL.of {W w' : World} {l : List Int} {e : Ending} (h : GivesIntsCode W l 0 e w') : GL w' l l.length e := by
  obtain ⟨v, rfl, ho⟩ := h.val
  obtain ⟨a, c, rfl, hi, _⟩ := ho.ints
  exact ⟨a, c, rfl, hi, rfl⟩
theorem countG {m : Nat} (a : Option Addr) (zss : List (List Int)) (c : Nat) (w : World) (h7 : m ≤ 7) (hf : FamOk (m : Int) zss) (hr : Rows2 w a zss) :
    Calls Tryd.prog 33 #[.agg #[.int .i64 (m : Nat), .slice a zss.length c]] w fun e w' => GL w' (cntList (tblAt zss zss.length) m) (m + 1) e ∧ Below w.heap.size w w' := by
  have h := implCnt_any (m : Int) a zss c w hr (fam_small h7 hf)
  rw [okCode_yes hf, show cntOf (m : Int) zss = cntList (tblAt zss zss.length) m by rw [cntOf, if_pos (tell_true hf), Int.toNat_natCast]] at h
  exact h.mono fun e w' g => ⟨by have := GL.of g; rw [cntList_len] at this; exact this, g.below⟩
theorem swingsG {m : Nat} (a : Option Addr) (zss : List (List Int)) (c : Nat) (w : World) (h7 : m ≤ 7) (hf : FamOk (m : Int) zss) (hr : Rows2 w a zss) :
    Calls Tryd.prog 34 #[.agg #[.int .i64 (m : Nat), .slice a zss.length c]] w fun e w' => GL w' (swList (tblAt zss zss.length) m) m e ∧ Below w.heap.size w w' := by
  have h := implSwg_any (m : Int) a zss c w hr (fam_small h7 hf)
  rw [okCode_yes hf, show swOf (m : Int) zss = swList (tblAt zss zss.length) m by rw [swOf, if_pos (tell_true hf), Int.toNat_natCast]] at h
  exact h.mono fun e w' g => ⟨by have := GL.of g; rw [swList_len] at this; exact this, g.below⟩
theorem needG {m : Nat} (a : Option Addr) (zss : List (List Int)) (c : Nat) (w : World) (h7 : m ≤ 7) (hf : FamOk (m : Int) zss) (hr : Rows2 w a zss) :
    Calls Tryd.prog 35 #[.agg #[.int .i64 (m : Nat), .slice a zss.length c]] w fun e w' => GL w' (needOf (m : Int) zss) (needOf (m : Int) zss).length e ∧ Below w.heap.size w w' := by
  have h := implNeed_any (m : Int) a zss c w hr (fam_small h7 hf)
  rw [okCode_yes hf] at h
  exact h.mono fun e w' g => ⟨GL.of g, g.below⟩
theorem vetoG {m : Nat} (a : Option Addr) (zss : List (List Int)) (c : Nat) (w : World) (h7 : m ≤ 7) (hf : FamOk (m : Int) zss) (hr : Rows2 w a zss) :
    Calls Tryd.prog 36 #[.agg #[.int .i64 (m : Nat), .slice a zss.length c]] w fun e w' => GL w' (vetoOf (m : Int) zss) (vetoOf (m : Int) zss).length e ∧ Below w.heap.size w w' := by
  have h := implVeto_any (m : Int) a zss c w hr (fam_small h7 hf)
  rw [okCode_yes hf] at h
  exact h.mono fun e w' g => ⟨GL.of g, g.below⟩
/-- The groups that may open, in their order. -/
structure GO (w' : World) (l : List (List Int)) (e : Ending) : Prop where
  val : ∃ a c, e = .returned (.tuple #[.slice a l.length c, .int .i64 0]) ∧ Rows2 w' a l
theorem allG {m : Nat} (a : Option Addr) (zss : List (List Int)) (c : Nat) (w : World) (h7 : m ≤ 7) (hf : FamOk (m : Int) zss) (hr : Rows2 w a zss) :
    Calls Tryd.prog 16 #[.agg #[.int .i64 (m : Nat), .slice a zss.length c]] w fun e w' => GO w' (pickOf (tblAt zss zss.length) (lexAll m)) e ∧ Below w.heap.size w w' := by
  have h := implOg_any (m : Int) a zss c w hr (fam_small h7 hf)
  rw [okCode_yes hf, show ogOf (m : Int) zss = pickOf (tblAt zss zss.length) (lexAll m) by unfold ogOf; rw [if_pos (tell_true hf), Int.toNat_natCast]] at h
  refine h.mono fun e w' g => ⟨?_, g.below⟩
  obtain ⟨v, us, rfl, ho⟩ := g.val
  obtain ⟨a, c, hv, hr⟩ := ho.rows2
  subst hv
  exact ⟨a, c, rfl, hr⟩
theorem sumTo_in {l : List Int} (h : ∀ i, i < l.length → 0 ≤ nth l i ∧ nth l i ≤ 128) : ∀ k, k ≤ l.length → 0 ≤ sumTo l k ∧ sumTo l k ≤ 128 * (k : Int)
  | 0, _ => by simp [sumTo]
  | k + 1, hk => by
    have h1 := sumTo_in h k (by omega)
    have h2 := h k (by omega)
    unfold sumTo
    omega
set_option maxRecDepth 100000 in
theorem a2Sum_any (a : Option Addr) (zs : List Int) (c n : Nat) (w : World) (h : Ints w a zs) (hn : zs.length = n) (hl : n ≤ 1000) (hz : ∀ i, i < n → 0 ≤ nth zs i ∧ nth zs i ≤ 128) :
    Calls Tryd.prog 38 #[.slice a n c] w fun e w' => e = .returned (.int .i64 (sumTo zs n)) ∧ w = w' := by
  have HS := Lib.hid (sumTo_in (l := zs) (fun i hi => hz i (by omega)))
  have HZ := Lib.hid hz
  have HN := Lib.hid hn
  clear hz hn
  go_enter Tryd.func38, Tryd.ntmps38
  go_wp2_with fail
  go_loop [3, 4] (fun s i => ∃ k : Nat, i = .int .i64 k ∧ k ≤ n ∧ s = .int .i64 (sumTo zs k)) (fun _ i => n - (intOf i).toNat)
  case atStart => exact ⟨0, rfl, Nat.zero_le _, rfl⟩
  case round =>
    obtain ⟨k, rfl, hk, rfl⟩ := hrel
    by_cases hlt : k < n
    · have hnn := HN.out
      obtain ⟨hs0, hs1⟩ := HS.out k (by omega)
      obtain ⟨hv0, hv1⟩ := HZ.out k hlt
      rcases h with h | ⟨b, o, rfl, hc⟩
      · rw [h] at hnn; simp at hnn; omega
      have hcell := hc k (by omega)
      have hi0 : (k : Int) < (n : Int) := by omega
      have HE := Lib.hid (show sumTo zs (k + 1) = sumTo zs k + nth zs k from rfl)
      clear hc hnn
      generalize sumTo zs k = sk at *
      generalize nth zs k = vk at *
      go_wp2_with fail
      go_round
      case rel => exact ⟨k + 1, by go_num, by omega, by rw [HE.out]⟩
      case measure => simp [intOf]; omega
    · have hi0 : ¬ (k : Int) < (n : Int) := by omega
      have hE : k = n := by omega
      subst hE
      go_wp2_with fail
      go_ret
      exact ⟨rfl, rfl⟩
end Worth
end Go.Proofs.YteifllengcacbaaDoor

namespace Go.Proofs.YteifllengcacbaaDoor
open Go.ChangeShapes Go.WideShapes Go.ChangeAt Go.RowKit Go.Deep Go.Joins
set_option linter.unusedVariables false
namespace Worth

/-- The first k all have a property. -/
noncomputable def allTo (P : Nat → Prop) (k : Nat) : Bool := tell (∀ i, i < k → P i)
theorem allTo_zero (P : Nat → Prop) : allTo P 0 = true := tell_true (fun i h => absurd h (Nat.not_lt_zero _))
theorem allTo_off {P : Nat → Prop} {k : Nat} (h : allTo P k = false) : allTo P (k + 1) = false := tell_false (fun q => of_tell_false h (fun i hi => q i (by omega)))
theorem allTo_next {P : Nat → Prop} {k : Nat} (h : allTo P k = true) : allTo P (k + 1) = tell (P k) := by
  have h1 := of_tell h
  refine tell_congr ⟨fun q => q k (by omega), fun q i hi => ?_⟩
  by_cases e : i = k
  · subst e; exact q
  · exact h1 i (by omega)
theorem has_q (a : Option Addr) (zs : List Int) (c : Nat) (n : Int) (w : World) (h : Ints w a zs) (hl : zs.length ≤ 1048576) :
    Calls Tryd.prog 20 #[.slice a zs.length c, .int .i64 n] w fun e w' => e = .returned (.bool (tell (n ∈ zs))) ∧ Quiet w w' :=
  (a2Has_any a zs c n w h (by omega)).mono fun e w' g => ⟨g.1, g.2 ▸ Quiet.refl _⟩
theorem count_in {m : Nat} (h7 : m ≤ 7) (p : Nat → Bool) {i : Nat} (hi : i < m + 1) : 0 ≤ nth (cntList p m) i ∧ nth (cntList p m) i ≤ 128 := by
  rw [cntList_nth p hi]
  have := cntR_le p (2 ^ m) i
  have := pow_128 h7
  omega
theorem count_sum {m : Nat} (m5 : m ≤ 5) {fz dz : List (List Int)} (ht : ∀ x, x < 2 ^ m → tblAt dz dz.length x = dualB m fz x) {k : Nat} (hk : k ≤ m) : nth (cntList (tblAt fz fz.length) m) k + nth (cntList (tblAt dz dz.length) m) (m - k) = (chs m k : Nat) := by
  rw [cntList_nth _ (by omega), cntList_nth _ (by omega), ← cnt_dual m5 fz hk]
  have : cntR (tblAt dz dz.length) (2 ^ m) (m - k) = cntR (dualB m fz) (2 ^ m) (m - k) := count_congr fun x hx => by
    unfold hits
    rw [ht x hx]
  rw [this]
  omega
set_option maxRecDepth 100000 in
set_option maxHeartbeats 8000000 in
theorem law (a0 : Option Addr) (z0 : List Int) (c0 : Nat) (a1 : Option Addr) (z1 : List Int) (c1 : Nat) (w : World) (hr0 : Bytes w a0 z0) (hl0 : z0.length ≤ 9223372036854775807) (hr1 : Bytes w a1 z1) (hl1 : z1.length ≤ 9223372036854775807) :
    Calls Tryd.prog 9 #[.slice a0 z0.length c0, .slice a1 z1.length c1] w fun e w' => e = .returned (.bool true) ∧ Below w.heap.size w w' := by
  have R0 := Lib.hid hr0
  have R1 := Lib.hid hr1
  clear hr0 hr1
  by_cases hlong : 3000 < z0.length ∨ 3000 < z1.length
  · have HT := Lib.hid (tell_true hlong)
    clear hlong
    go_enter Tryd.func9, Tryd.ntmps9
    go_wp2_with fail
    refine (a2Long_any a0 a1 z0 z1 c0 c1 w).mono ?_
    rintro e w' ⟨rfl, rfl⟩
    rw [HT.out]
    go_wp2_with fail
    go_ret
    exact ⟨rfl, Below.refl _ _⟩
  have HT := Lib.hid (tell_false hlong)
  have s0 : z0.length ≤ 3000 := by omega
  have s1 : z1.length ≤ 3000 := by omega
  clear hlong
  go_enter Tryd.func9, Tryd.ntmps9
  go_wp2_with fail
  refine (a2Long_any a0 a1 z0 z1 c0 c1 w).mono ?_
  rintro e w' ⟨rfl, rfl⟩
  rw [HT.out]
  have HBW := Lib.hid (Below.refl w.heap.size w)
  go_wp2_with fail
  refine (A2Family_any a0 z0 c0 w R0.out s0).mono ?_
  rintro e w1 ⟨⟨m, m1, m5, ⟨fa, fz, fc, rfl, hok, hr⟩⟩, hb⟩
  replace R0 := Lib.hid (R0.out.step hb)
  replace R1 := Lib.hid (R1.out.step hb)
  replace HBW := Lib.hid (chain HBW.out hb)
  have HOF := Lib.hid hok
  have HRF := Lib.hid hr
  clear hb hok hr
  have m7 : m ≤ 7 := by omega
  have hba := al_b w1 (.cells #[.int .i64 (m : Nat), .slice fa fz.length fc] 26)
  have hx : Boxes (w1.alloc (.cells #[.int .i64 (m : Nat), .slice fa fz.length fc] 26)) w1.heap.size 26 #[.int .i64 (m : Nat), .slice fa fz.length fc] := World.alloc_heap_new _ _
  go_wp2_with fail
  replace R0 := Lib.hid (R0.out.step hba)
  replace R1 := Lib.hid (R1.out.step hba)
  replace HRF := Lib.hid (HRF.out.step hba)
  replace HBW := Lib.hid (chain HBW.out hba)
  have HXF := Lib.hid hx
  clear hba hx
  generalize w1.alloc (.cells #[.int .i64 (m : Nat), .slice fa fz.length fc] 26) = w2 at *
  generalize w1.heap.size = Fo at *
  have aF0 := HXF.out.c0
  have aF1 := HXF.out.c1
  have aFl := HXF.out.lt
  refine (countG fa fz fc w2 m7 HOF.out HRF.out).mono ?_
  rintro e w3 ⟨⟨ca, cc, rfl, hci, hcl⟩, hb⟩
  clear aF0 aF1 aFl
  replace R0 := Lib.hid (R0.out.step hb)
  replace R1 := Lib.hid (R1.out.step hb)
  replace HRF := Lib.hid (HRF.out.step hb)
  replace HXF := Lib.hid (HXF.out.step hb)
  replace HBW := Lib.hid (chain HBW.out hb)
  have HCI := Lib.hid hci
  have HCL := Lib.hid hcl
  clear hb hci hcl
  have aF0 := HXF.out.c0
  have aF1 := HXF.out.c1
  have aFl := HXF.out.lt
  go_wp2_with fail
  refine (allG fa fz fc w3 m7 HOF.out HRF.out).mono ?_
  rintro e w4 ⟨⟨aa, ac, rfl, hra⟩, hb⟩
  clear aF0 aF1 aFl
  replace R0 := Lib.hid (R0.out.step hb)
  replace R1 := Lib.hid (R1.out.step hb)
  replace HRF := Lib.hid (HRF.out.step hb)
  replace HXF := Lib.hid (HXF.out.step hb)
  replace HCI := Lib.hid (HCI.out.step hb)
  replace HBW := Lib.hid (chain HBW.out hb)
  have HRA := Lib.hid hra
  clear hb hra
  have HMA := Lib.hid (fun zs => mem_pick (q := tblAt fz fz.length) (zs := zs) m7)
  have HSA := Lib.hid (sum_all m7 (tblAt fz fz.length))
  have alen : (pickOf (tblAt fz fz.length) (lexAll m)).length ≤ 128 := pick_len128 m7 _
  generalize pickOf (tblAt fz fz.length) (lexAll m) = az at *
  have aF0 := HXF.out.c0
  have aF1 := HXF.out.c1
  have aFl := HXF.out.lt
  go_wp2_with fail
  refine (swingsG fa fz fc w4 m7 HOF.out HRF.out).mono ?_
  rintro e w5 ⟨⟨sa, sc, rfl, hsi, hsl⟩, hb⟩
  clear aF0 aF1 aFl
  replace R0 := Lib.hid (R0.out.step hb)
  replace R1 := Lib.hid (R1.out.step hb)
  replace HRF := Lib.hid (HRF.out.step hb)
  replace HXF := Lib.hid (HXF.out.step hb)
  replace HCI := Lib.hid (HCI.out.step hb)
  replace HRA := Lib.hid (HRA.out.step hb)
  replace HBW := Lib.hid (chain HBW.out hb)
  have HSI := Lib.hid hsi
  have HSL := Lib.hid hsl
  clear hb hsi hsl
  have aF0 := HXF.out.c0
  have aF1 := HXF.out.c1
  have aFl := HXF.out.lt
  go_wp2_with fail
  refine (needG fa fz fc w5 m7 HOF.out HRF.out).mono ?_
  rintro e w6 ⟨⟨na, nc, rfl, hni, hnl⟩, hb⟩
  clear aF0 aF1 aFl
  replace R0 := Lib.hid (R0.out.step hb)
  replace R1 := Lib.hid (R1.out.step hb)
  replace HRF := Lib.hid (HRF.out.step hb)
  replace HXF := Lib.hid (HXF.out.step hb)
  replace HCI := Lib.hid (HCI.out.step hb)
  replace HRA := Lib.hid (HRA.out.step hb)
  replace HSI := Lib.hid (HSI.out.step hb)
  replace HBW := Lib.hid (chain HBW.out hb)
  have HNI := Lib.hid hni
  clear hb hni
  clear hnl
  have HNE := Lib.hid (fun h (hh : h < m) => need_iff m7 HOF.out hh)
  have nlen := needOf_len (m : Int) fz
  generalize needOf (m : Int) fz = nz at *
  have aF0 := HXF.out.c0
  have aF1 := HXF.out.c1
  have aFl := HXF.out.lt
  go_wp2_with fail
  refine (vetoG fa fz fc w6 m7 HOF.out HRF.out).mono ?_
  rintro e w7 ⟨⟨va, vc, rfl, hvi, hvl⟩, hb⟩
  clear aF0 aF1 aFl
  replace R0 := Lib.hid (R0.out.step hb)
  replace R1 := Lib.hid (R1.out.step hb)
  replace HRF := Lib.hid (HRF.out.step hb)
  replace HXF := Lib.hid (HXF.out.step hb)
  replace HCI := Lib.hid (HCI.out.step hb)
  replace HRA := Lib.hid (HRA.out.step hb)
  replace HSI := Lib.hid (HSI.out.step hb)
  replace HNI := Lib.hid (HNI.out.step hb)
  replace HBW := Lib.hid (chain HBW.out hb)
  have HVI := Lib.hid hvi
  clear hb hvi
  clear hvl
  have HVE := Lib.hid (fun h (hh : h < m) => veto_iff m7 HOF.out hh)
  have vlen := vetoOf_len (m : Int) fz
  generalize vetoOf (m : Int) fz = vz at *
  have aF0 := HXF.out.c0
  have aF1 := HXF.out.c1
  have aFl := HXF.out.lt
  go_wp2_with fail
  refine (alikeG fa fz fc w7 m7 HOF.out HRF.out).mono ?_
  rintro e w8 ⟨⟨la, lc, rfl, hli, hll⟩, hb⟩
  clear aF0 aF1 aFl
  replace R0 := Lib.hid (R0.out.step hb)
  replace R1 := Lib.hid (R1.out.step hb)
  replace HRF := Lib.hid (HRF.out.step hb)
  replace HXF := Lib.hid (HXF.out.step hb)
  replace HCI := Lib.hid (HCI.out.step hb)
  replace HRA := Lib.hid (HRA.out.step hb)
  replace HSI := Lib.hid (HSI.out.step hb)
  replace HNI := Lib.hid (HNI.out.step hb)
  replace HVI := Lib.hid (HVI.out.step hb)
  replace HBW := Lib.hid (chain HBW.out hb)
  have HLI := Lib.hid hli
  have HLL := Lib.hid hll
  clear hb hli hll
  have HAS := Lib.hid (fun h k (hh : h < m) (hk : k < m) => same_swings (z := fz) m7 hh hk)
  generalize (alN (tabOf (m : Int) fz) m m).1 = al at *
  have HSW := Lib.hid (fun i (hi : i < m) => swList_nth (tblAt fz fz.length) hi)
  have HSB := Lib.hid (fun i => swR_le (tblAt fz fz.length) (2 ^ m) i)
  generalize swList (tblAt fz fz.length) m = sl at *
  generalize hsw : swR (tblAt fz fz.length) (2 ^ m) = sw at *
  clear hsw
  have aF0 := HXF.out.c0
  have aF1 := HXF.out.c1
  have aFl := HXF.out.lt
  go_wp2_with fail
  refine (dualG fa fz fc w8 m1 m7 HOF.out HRF.out).mono ?_
  rintro e w9 ⟨⟨da, dz, dc, rfl, hok, ht, hr⟩, hb⟩
  clear aF0 aF1 aFl
  replace R0 := Lib.hid (R0.out.step hb)
  replace R1 := Lib.hid (R1.out.step hb)
  replace HRF := Lib.hid (HRF.out.step hb)
  replace HXF := Lib.hid (HXF.out.step hb)
  replace HCI := Lib.hid (HCI.out.step hb)
  replace HRA := Lib.hid (HRA.out.step hb)
  replace HSI := Lib.hid (HSI.out.step hb)
  replace HNI := Lib.hid (HNI.out.step hb)
  replace HVI := Lib.hid (HVI.out.step hb)
  replace HLI := Lib.hid (HLI.out.step hb)
  replace HBW := Lib.hid (chain HBW.out hb)
  have HOD := Lib.hid hok
  have HTD := Lib.hid ht
  have HRD := Lib.hid hr
  clear hb hok ht hr
  have hba := al_b w9 (.cells #[.int .i64 (m : Nat), .slice da dz.length dc] 26)
  have hx : Boxes (w9.alloc (.cells #[.int .i64 (m : Nat), .slice da dz.length dc] 26)) w9.heap.size 26 #[.int .i64 (m : Nat), .slice da dz.length dc] := World.alloc_heap_new _ _
  have aF0 := HXF.out.c0
  have aF1 := HXF.out.c1
  have aFl := HXF.out.lt
  go_wp2_with fail
  clear aF0 aF1 aFl
  replace R0 := Lib.hid (R0.out.step hba)
  replace R1 := Lib.hid (R1.out.step hba)
  replace HRF := Lib.hid (HRF.out.step hba)
  replace HXF := Lib.hid (HXF.out.step hba)
  replace HCI := Lib.hid (HCI.out.step hba)
  replace HRA := Lib.hid (HRA.out.step hba)
  replace HSI := Lib.hid (HSI.out.step hba)
  replace HNI := Lib.hid (HNI.out.step hba)
  replace HVI := Lib.hid (HVI.out.step hba)
  replace HLI := Lib.hid (HLI.out.step hba)
  replace HRD := Lib.hid (HRD.out.step hba)
  replace HBW := Lib.hid (chain HBW.out hba)
  have HXD := Lib.hid hx
  clear hba hx
  generalize w9.alloc (.cells #[.int .i64 (m : Nat), .slice da dz.length dc] 26) = w10 at *
  generalize w9.heap.size = Do at *
  have aF0 := HXF.out.c0
  have aF1 := HXF.out.c1
  have aFl := HXF.out.lt
  have aD0 := HXD.out.c0
  have aD1 := HXD.out.c1
  have aDl := HXD.out.lt
  refine (countG da dz dc w10 m7 HOD.out HRD.out).mono ?_
  rintro e w11 ⟨⟨ea, ec, rfl, hei, hel⟩, hb⟩
  clear aF0 aF1 aFl aD0 aD1 aDl
  replace R0 := Lib.hid (R0.out.step hb)
  replace R1 := Lib.hid (R1.out.step hb)
  replace HRF := Lib.hid (HRF.out.step hb)
  replace HXF := Lib.hid (HXF.out.step hb)
  replace HCI := Lib.hid (HCI.out.step hb)
  replace HRA := Lib.hid (HRA.out.step hb)
  replace HSI := Lib.hid (HSI.out.step hb)
  replace HNI := Lib.hid (HNI.out.step hb)
  replace HVI := Lib.hid (HVI.out.step hb)
  replace HLI := Lib.hid (HLI.out.step hb)
  replace HRD := Lib.hid (HRD.out.step hb)
  replace HXD := Lib.hid (HXD.out.step hb)
  replace HBW := Lib.hid (chain HBW.out hb)
  have HEI := Lib.hid hei
  have HEL := Lib.hid hel
  clear hb hei hel
  have HCE := Lib.hid (fun k (hk : k ≤ m) => count_sum m5 HTD.out hk)
  have HCB := Lib.hid (fun i (hi : i < m + 1) => count_in m7 (tblAt fz fz.length) hi)
  have HEB := Lib.hid (fun i (hi : i < m + 1) => count_in m7 (tblAt dz dz.length) hi)
  generalize cntList (tblAt fz fz.length) m = cl at *
  generalize cntList (tblAt dz dz.length) m = el at *
  obtain ⟨N, hN⟩ : ∃ N, N = m + 1 := ⟨_, rfl⟩
  have hNI : (m : Int) + 1 = (N : Int) := by omega
  rw [← hN] at HCL HEL HCB HEB HSA ⊢
  have HNN := Lib.hid hN
  have N8 : N ≤ 6 := by omega
  clear hN
  have aF0 := HXF.out.c0
  have aF1 := HXF.out.c1
  have aFl := HXF.out.lt
  have aD0 := HXD.out.c0
  have aD1 := HXD.out.c1
  have aDl := HXD.out.lt
  go_wp2_with fail
  refine (a2Sum_any ca cl cc N w11 HCI.out HCL.out (by omega) (fun i hi => HCB.out i hi)).mono ?_
  rintro e w' ⟨rfl, rfl⟩
  rw [HSA.out]
  go_wp2_with fail
  clear aF0 aF1 aFl aD0 aD1 aDl
  go_loopw [23, 24] (fun v i wi => ∃ j, j ≤ N ∧ i = .int .i64 (j : Nat) ∧ v = .int .i64 (chs m j : Nat) ∧ Quiet w11 wi)
    (fun _ i _ => N - (intOf i).toNat)
  case atStart => exact ⟨0, Nat.zero_le _, rfl, rfl, Quiet.refl _⟩
  case round =>
    obtain ⟨j, hj, rfl, rfl, hq⟩ := hrel
    have HQ := Lib.hid hq
    have hci := HCI.out.quiet hq
    have hei := HEI.out.quiet hq
    clear hq
    have HNM := HNN.out
    by_cases hlt : j ≤ m
    · have hi0 : (j : Int) ≤ (m : Int) := by omega
      obtain ⟨q, hqm⟩ : ∃ q, q = m - j := ⟨_, rfl⟩
      have HSX := Lib.hid (HCE.out j hlt)
      have HX1 := Lib.hid (HCB.out j (by omega))
      have HX2 := Lib.hid (HEB.out (m - j) (by omega))
      rw [← hqm] at HSX HX2
      have HC10 := Lib.hid (chs_le m (by omega) j (by omega))
      have HCN := Lib.hid (show chs m (j + 1) = chs m j * (m - j) / (j + 1) from rfl)
      rw [← hqm] at HCN
      have hmq : (m : Int) - (j : Int) = (q : Int) := by omega
      have hjN : (j : Int) < (N : Int) := by omega
      have hqN : (q : Int) < (N : Int) := by omega
      have hqn : q < N := by omega
      have hjn : j < N := by omega
      have q5 : q ≤ 5 := by omega
      clear HNM hqm
      rcases hci with h0 | ⟨b1, o1, hab, hc⟩
      · have := HCL.out; rw [h0] at this; simp at this; omega
      rcases hei with h0 | ⟨b2, o2, hab2, hc2⟩
      · have := HEL.out; rw [h0] at this; simp at this; omega
      subst hab
      subst hab2
      have g1 := hc j (by rw [HCL.out]; exact hjn)
      have g2 := hc2 q (by rw [HEL.out]; exact hqn)
      clear hc hc2
      obtain ⟨x1, e1⟩ : ∃ x, x = nth cl j := ⟨_, rfl⟩
      obtain ⟨x2, e2⟩ : ∃ x, x = nth el q := ⟨_, rfl⟩
      obtain ⟨ch, e3⟩ : ∃ x, x = chs m j := ⟨_, rfl⟩
      obtain ⟨c2, e4⟩ : ∃ x, x = chs m (j + 1) := ⟨_, rfl⟩
      rw [← e1] at g1 HSX HX1
      rw [← e2] at g2 HSX HX2
      rw [← e3] at HSX HC10 HCN ⊢
      rw [← e4] at HCN
      have HE4 := Lib.hid e4
      have c210 : c2 ≤ 10 := by rw [e4]; exact chs_le m (by omega) (j + 1) (by omega)
      clear e1 e2 e3 e4
      obtain ⟨hx10, hx11⟩ := HX1.out
      obtain ⟨hx20, hx21⟩ := HX2.out
      have hsum := HSX.out
      have hc10 := HC10.out
      obtain ⟨pp, hpp⟩ : ∃ p, p = ch * q := ⟨_, rfl⟩
      have hp50 : pp ≤ 50 := by rw [hpp]; exact Nat.mul_le_mul hc10 q5
      have hpi : (ch : Int) * (q : Int) = (pp : Int) := by rw [hpp]; exact (Int.natCast_mul _ _).symm
      have hdv : (pp : Int).tdiv ((j : Int) + 1) = (c2 : Int) := by rw [HCN.out, ← hpp]; rfl
      clear hpp
      go_wp2_with fail
      go_quiet (fail)
      go_wp2_with fail
      go_roundw
      case rel => exact ⟨j + 1, by omega, by go_num, by rw [HE4.out], HQ.out.trans ⟨_, rfl⟩⟩
      case measure => simp [intOf]; omega
    · have hi0 : ¬ (j : Int) ≤ (m : Int) := by omega
      clear hci hei HNM HCI HEI HCE HCB HEB
      go_wp2_with fail
      obtain ⟨wo, rfl⟩ : ∃ wo : World, wo = wr := ⟨_, rfl⟩
      go_loopw [25] (fun i wi => ∃ h, h ≤ m ∧ i = .int .i64 (h : Nat) ∧ Quiet w11 wi)
        (fun i _ => m - (intOf i).toNat)
      case atStart => exact ⟨0, Nat.zero_le _, rfl, HQ.out⟩
      case round =>
        clear HQ
        obtain ⟨h, hh, rfl, hq⟩ := hrel
        have HQ := Lib.hid hq
        have hsi := HSI.out.quiet hq
        have HNI2 := Lib.hid (HNI.out.quiet hq)
        clear hq
        by_cases hlh : h < m
        · have hi1 : (h : Int) < (m : Int) := by omega
          rcases hsi with h0 | ⟨b1, o1, hab, hc⟩
          · have := HSL.out; rw [h0] at this; simp at this; omega
          subst hab
          have g1 := hc h (by rw [HSL.out]; exact hlh)
          clear hc
          obtain ⟨v1, e1⟩ : ∃ x, x = nth sl h := ⟨_, rfl⟩
          rw [← e1] at g1
          obtain ⟨B, hB⟩ : ∃ B, decide ((0 : Int) < v1) = B := ⟨_, rfl⟩
          have HTB := Lib.hid (show tell ((h : Int) ∈ nz) = B from by
            rw [← hB, e1, HSW.out h hlh]
            by_cases hp : 0 < sw h
            · rw [tell_true ((HNE.out h hlh).2 hp)]; exact (decide_eq_true (by omega)).symm
            · rw [tell_false (fun q => hp ((HNE.out h hlh).1 q))]; exact (decide_eq_false (by omega)).symm)
          clear e1
          go_wp2_with fail
          go_quiet ((go_at_call 20; refine Calls.quiet_of (v := .bool B) ?_; rw [← HTB.out]; exact has_q na nz nc (h : Int) _ (HNI2.out.quiet ⟨_, rfl⟩) nlen))
          have HQO := Lib.hid (HQ.out.trans (⟨_, rfl⟩ : Quiet wr (wr.drewN nq)))
          clear HQ HNI2 hB HTB g1
          generalize wr.drewN nq = wo at *
          go_wp2_with fail
          go_loopw [26] (fun i wi => ∃ k, k ≤ h ∧ i = .int .i64 (k : Nat) ∧ Quiet w11 wi)
            (fun i _ => h - (intOf i).toNat)
          case atStart => exact ⟨0, Nat.zero_le _, rfl, HQO.out⟩
          case round =>
            clear HQO
            obtain ⟨k, hk, rfl, hq⟩ := hrel
            have HQ := Lib.hid hq
            have hsi := HSI.out.quiet hq
            have hli := HLI.out.quiet hq
            clear hq
            by_cases hlk : k < h
            · have hi2 : (k : Int) < (h : Int) := by omega
              have hi3 : (k : Int) < (m : Int) := by omega
              rcases hsi with h0 | ⟨b2, o2, hab, hc⟩
              · have := HSL.out; rw [h0] at this; simp at this; omega
              cases hab
              rcases hli with h0 | ⟨b3, o3, hab, hc3⟩
              · have := HLL.out; rw [h0] at this; simp at this; omega
              subst hab
              have g1 := hc h (by rw [HSL.out]; exact hlh)
              have g2 := hc k (by rw [HSL.out]; omega)
              have g3 := hc3 h (by rw [HLL.out]; exact hlh)
              have g4 := hc3 k (by rw [HLL.out]; omega)
              clear hc hc3
              have HAS1 := Lib.hid (HAS.out h k hlh (by omega))
              rw [HSW.out h hlh] at g1
              rw [HSW.out k (by omega)] at g2
              generalize nth al h = u1 at *
              generalize nth al k = u2 at *
              by_cases he : u1 = u2
              · have hs : sw h = sw k := HAS1.out he
                rw [← hs] at g2
                generalize ((sw h : Nat) : Int) = s1 at *
                subst he
                clear hs
                go_wp2_with fail
                go_big_quiet (fail)
                go_wp2_with fail
                go_roundw
                case rel => exact ⟨k + 1, by omega, by go_num, HQ.out.trans ⟨_, rfl⟩⟩
                case measure => simp [intOf]; omega
              · have hd : decide (u1 = u2) = false := decide_eq_false he
                generalize ((sw h : Nat) : Int) = s1 at *
                generalize ((sw k : Nat) : Int) = s2 at *
                have hd2 : (u1 == u2) = false := beq_eq_false_iff_ne.2 he
                clear he
                go_wp2_with fail
                go_big_quiet (fail)
                go_wp2_with fail
                go_roundw
                case rel => exact ⟨k + 1, by omega, by go_num, HQ.out.trans ⟨_, rfl⟩⟩
                case measure => simp [intOf]; omega
            · have hi2 : ¬ (k : Int) < (h : Int) := by omega
              clear hsi hli
              go_wp2_with fail
              obtain ⟨wo, rfl⟩ : ∃ wo : World, wo = wr := ⟨_, rfl⟩
              go_loopw [27, 28] (fun v i wi => ∃ j, j ≤ az.length ∧ i = .int .i64 (j : Nat) ∧ v = .bool (allTo (fun i => (h : Int) ∈ nthL az i) j) ∧ Quiet w11 wi)
                (fun _ i _ => az.length - (intOf i).toNat)
              case atStart => exact ⟨0, Nat.zero_le _, rfl, by rw [allTo_zero], HQ.out⟩
              case round =>
                clear HQ
                obtain ⟨j, hj, rfl, rfl, hq⟩ := hrel
                have HQ := Lib.hid hq
                have hra := HRA.out.quiet hq
                have HVI2 := Lib.hid (HVI.out.quiet hq)
                clear hq
                by_cases hlt : j < az.length
                · have hi4 : (j : Int) < (az.length : Int) := by omega
                  cases hb1 : allTo (fun i => (h : Int) ∈ nthL az i) j with
                  | false =>
                    have HN := Lib.hid (allTo_off hb1)
                    clear hb1 hra
                    go_wp2_with fail
                    go_roundw
                    case rel => exact ⟨j + 1, by omega, by go_num, by rw [HN.out], HQ.out⟩
                    case measure => simp [intOf]; omega
                  | true =>
                    have HN := Lib.hid (allTo_next hb1)
                    clear hb1
                    rcases hra with h0 | ⟨b2, o2, hab, hc⟩
                    · rw [h0] at hlt; exact absurd hlt (Nat.not_lt_zero _)
                    obtain ⟨ai, ci, hcell, hin⟩ := hc j hlt
                    have HIN := Lib.hid hin
                    obtain ⟨y, hy, _, hye⟩ := (HMA.out (nthL az j)).1 (by rw [nthL_lt hlt]; exact List.getElem_mem _)
                    have HYL := Lib.hid (show (nthL az j).length ≤ 7 by rw [hye]; exact listTo_len y 7)
                    clear hc hin hy hye
                    subst hab
                    go_wp2_with fail
                    refine (a2Has_any ai (nthL az j) ci (h : Int) wr HIN.out (by have := HYL.out; omega)).mono ?_
                    rintro e w' ⟨rfl, rfl⟩
                    rw [← HN.out]
                    go_wp2_with fail
                    go_roundw
                    case rel => exact ⟨j + 1, by omega, by go_num, rfl, HQ.out⟩
                    case measure => simp [intOf]; omega
                · have hi4 : ¬ (j : Int) < (az.length : Int) := by omega
                  have hE : j = az.length := by omega
                  subst hE
                  have HAV := Lib.hid (show tell ((h : Int) ∈ vz) = allTo (fun i => (h : Int) ∈ nthL az i) az.length from by
                    unfold allTo
                    refine tell_congr ((HVE.out h hlh).trans ⟨fun q i hi => ?_, fun q x hx hp => ?_⟩)
                    · obtain ⟨y, hy, hp, hye⟩ := (HMA.out (nthL az i)).1 (by rw [nthL_lt hi]; exact List.getElem_mem _)
                      rw [hye, mem_bits (by have := pow_128 m7; omega)]
                      exact q y hy hp
                    · obtain ⟨i, h1, h2⟩ := List.mem_iff_getElem.1 ((HMA.out (listOf x)).2 ⟨x, hx, hp, rfl⟩)
                      have h3 : (h : Int) ∈ nthL az i := q i h1
                      rw [nthL_lt h1, h2, mem_bits (by have := pow_128 m7; omega)] at h3
                      exact h3)
                  clear hra
                  generalize allTo (fun i => (h : Int) ∈ nthL az i) az.length = B2 at *
                  go_wp2_with fail
                  refine (a2Has_any va vz vc (h : Int) wr HVI2.out (by omega)).mono ?_
                  rintro e w' ⟨rfl, rfl⟩
                  rw [HAV.out]
                  go_wp2_with fail
                  go_roundw
                  case rel => exact ⟨h + 1, by omega, by go_num, HQ.out⟩
                  case measure => simp [intOf]; omega
        · have hi1 : ¬ (h : Int) < (m : Int) := by omega
          clear hsi
          go_wp2_with fail
          go_ret
          exact ⟨rfl, chain HBW.out (quiet_below HQ.out)⟩

end Worth
end Go.Proofs.YteifllengcacbaaDoor

namespace Go.Proofs.YteifllengcacbaaDoor
open Go.ChangeShapes Go.WideShapes Go.ChangeAt Go.RowKit Go.Deep
set_option linter.unusedVariables false
namespace Worth


theorem door_met (os : Os) (args : Array Value) : laidMetH Tryd.prog Rows.fnWorthRow.laid ((World.doorLaid Tryd.prog 62 os).forCall (fun _ _ => 0) ⟨#[], args, []⟩).memory :=
  laidMetH_of_parts3 (fuel := 8) (laidMet_of_run' 8 (by kernel_rfl) (by kernel_rfl)) (by kernel_rfl) (by kernel_rfl)

set_option maxRecDepth 100000 in
set_option maxHeartbeats 100000000 in
theorem lifted (os : Os) (started : os.Started) (H : Type) (enc : TypeId × Value → H) :
    ReturnsInHanded {} Tryd.checked os 9 .any (fun w args => (Rows.fnWorthSpec.pre enc Tryd.prog Tryd.f9 [] false w args ∧ laidMetH Tryd.prog Rows.fnWorthRow.laid w) ∧ sizedMet enc Tryd.prog Tryd.f9 (OpenSpec.ofChange Rows.fnWorthSpec) false w args)
      (Rows.fnWorthSpec.post enc Tryd.prog Tryd.f9 false true false false) := by
  refine returnsInHanded_of_change_and (C := Tryd.checked) (X := fun w _ => laidMetH Tryd.prog Rows.fnWorthRow.laid w) (fun _ _ _ hh h => h.of_heap hh) CardP.own started (by kernel_rfl) Tryd.func9
    (ChangeSpec.witness_shaped (enc := enc) (C := Tryd.checked) (os := os) (X := fun w _ => laidMetH Tryd.prog Rows.fnWorthRow.laid w) false (World.doorLaid Tryd.prog 62 os) #[.slice none 0 0, .slice none 0 0] 8 rfl (World.shaped_of_RefB (by kernel_rfl) (by kernel_rfl)) (by kernel_rfl) (by kernel_rfl) (by kernel_rfl) (door_met os _)) ?_
  intro W base args ds gs before hval0 hW _ _ hL _
  have hval : ∀ (j : Nat) t v, Tryd.f9.params[j]? = some t → args[j]? = some v → Value.okWide Tryd.prog W .any base t v := hval0
  have hW' := hW
  obtain ⟨p, q, hA0, hV, rfl, hfz, hnd⟩ := hW
  have hA : DataW.TrodAll enc Tryd.prog W 0 (fun _ => true) true Tryd.f9.params.toList args.toList ds p := hA0
  rw [Tryd.params9] at hA hval
  obtain ⟨v0, vs0, d0, ds0, p0, q0, hargs, rfl, rfl, h0, r0⟩ := trodAll_cons hA
  obtain ⟨v1, vs1, d1, ds1, p1, q1, rfl, rfl, rfl, h1, r1⟩ := trodAll_cons r0
  obtain ⟨rfl, rfl, rfl⟩ := trodAll_nil r1
  obtain rfl : args = #[v0, v1] := by cases args; simp_all
  obtain ⟨rfl, rfl⟩ := trodVars_none hV
  have k0 := h0
  have lt0 : ∀ x ∈ p0, x.block < W.heap.size := by obtain ⟨m, hm⟩ := k0; exact DataW.trod_lt m _ _ _ hm
  obtain ⟨a0, len0, c0, rfl⟩ := okWide_slice Tryd.underlying22 (hval 0 22 v0 rfl rfl)
  obtain ⟨fuel0, hf0⟩ := h0
  obtain ⟨z0, rfl, rr0, ll0⟩ := open_bytes1 (by simpa [Value.cells] using hf0)
  have k1 := h1
  have lt1 : ∀ x ∈ p1, x.block < W.heap.size := by obtain ⟨m, hm⟩ := k1; exact DataW.trod_lt m _ _ _ hm
  obtain ⟨a1, len1, c1, rfl⟩ := okWide_slice Tryd.underlying22 (hval 1 22 v1 rfl rfl)
  obtain ⟨fuel1, hf1⟩ := h1
  obtain ⟨z1, rfl, rr1, ll1⟩ := open_bytes1 (by simpa [Value.cells] using hf1)
  clear hA0 hval0
  refine (law a0 z0 c0 a1 z1 c1 W rr0 ll0 rr1 ll1).mono fun e W' ⟨he, bel⟩ => ?_
  subst he
  exact ⟨_, rfl, _, _, _, [], _, [], hW', trodAll_mk1 (shut_bool Tryd.underlying4 _), (trodAll_cons_mk (Below.trod CardP.laidOut (by kernel_rfl) (of_decide_eq_true (by kernel_rfl)) k0 bel lt0) (trodAll_cons_mk (Below.trod CardP.laidOut (by kernel_rfl) (of_decide_eq_true (by kernel_rfl)) k1 bel lt1) trodAll_mk0)), rfl, bel.frame _, fun h => by cases h⟩


end Worth
end Go.Proofs.YteifllengcacbaaDoor

namespace Go.Proofs.YteifllengcacbaaDoor
open Go.ChangeShapes Go.WideShapes Go.ChangeAt Go.RowKit Go.Deep
set_option linter.unusedVariables false
namespace Worth

theorem over : Rows.fnWorthRow.holds Tryd.pinned (OpenSpec.ofChange Rows.fnWorthSpec) :=
  OpenClaim.holds_of_wide 9 Tryd.f9 rfl rfl rfl rfl rfl rfl rfl ⟨rfl, rfl, rfl, rfl, rfl⟩ rfl rfl rfl rfl rfl (by kernel_rfl) Tryd.func9 closed
    (of_decide_eq_true (by kernel_rfl)) (by unfold Func.isWrapper; first | (rw [if_pos (by decide +kernel)]; kernel_rfl) | (rw [if_neg (by decide +kernel)]; exact ⟨rfl, rfl⟩))
    (fun os started H enc _ => lifted os started H enc)

theorem said : Rows.FnWorthSaid := over

end Worth
end Go.Proofs.YteifllengcacbaaDoor

namespace Go.Proofs.YteifllengcacbaaDoor
open Go.ChangeShapes Go.WideShapes Go.ChangeAt Go.RowKit Go.Deep
set_option linter.unusedVariables false
namespace Worth

theorem plain (f : FuncId) (fn : Func) (hf : Tryd.pinned.checked.prog.funcNamed "loop.example/g01117/laws.FnWorth" = some f) (hfn : Tryd.pinned.checked.prog.funcs[f]? = some fn) :
    false = Tryd.pinned.checked.prog.looks [] ∧ ∀ (j : Nat) t, fn.params[j]? = some t → Tryd.pinned.checked.prog.wantsStandIn t = false := by
  obtain rfl : f = 9 := Option.some.inj (c_named.symm.trans hf) |>.symm
  obtain rfl : fn = Tryd.f9 := (Option.some.inj (Tryd.func9.symm.trans hfn)).symm
  refine ⟨CardP.looks, fun j t ht => ?_⟩
  rw [Tryd.params9] at ht
  have hm : t ∈ [22, 22] := by simpa using Array.mem_of_getElem? ht
  have hall := c_stand
  exact (show Tryd.prog.wantsStandIn t = false by simpa using List.all_eq_true.1 hall t hm)

theorem card : Rows.FnWorthCardSaid :=
  Claim7.holds_tied_plain_at .later [] _ _ _ _ said (fun _ h => by cases h) c_wf (fun _ h => by cases h) fnWorth_row_tie rfl ⟨rfl, rfl⟩ c_main rfl plain c_goes

end Worth
end Go.Proofs.YteifllengcacbaaDoor

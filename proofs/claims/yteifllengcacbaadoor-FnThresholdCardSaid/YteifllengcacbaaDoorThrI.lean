/- The program's ThresholdFamily. -/
import Derived.Test.YteifllengcacbaaDoorThr
import Derived.Test.YteifllengcacbaaDoorFw
namespace Go.Proofs.YteifllengcacbaaDoor
open Go.RowKit Go.Deep Go.Shelf
set_option linter.unusedVariables false

theorem famWhere_any (h : Nat) (fid : FuncId) (cl cr : Array Value) (p : Nat → Bool) (w : World) (h1 : 1 ≤ h) (h7 : h ≤ 7) (hC : Chooses w fid cl cr p) :
    Calls Tryd.prog 51 #[.int .i64 (h : Nat), .func (.func fid) cl cr] w (GivesFam w h (famOf h p)) := by
  rw [← famOf_seen h7]
  exact familyWhere_any h fid cl cr p w h1 h7 hC

set_option maxRecDepth 100000 in
theorem thr_chooses (B : Nat) (k : Int) (w : World) (hc : w.cell? ⟨B, 0, none⟩ = some (.int .i64 k)) : Chooses w 74 #[] #[.pointer (some ⟨B, 0, none⟩)] (fun x => decide (k ≤ ((listOf x).length : Nat))) := by
  refine ⟨enters_of Tryd.func74 (by kernel_rfl) rfl, fun x W hb => ?_⟩
  have hx := x.isLt
  have hcW := cell_step hb hc
  clear hb hc
  show Calls Tryd.prog 74 #[.int .u64 (x.val : Int), .pointer (some ⟨B, 0, none⟩)] W _
  generalize x.val = y at *
  go_enter Tryd.func74, Tryd.ntmps74
  go_wp2
  go_quiet ((go_at_call 70; exact Calls.quiet_of_same (swapped (size_any y _ hx))))
  go_wp2
  go_ret
  exact ⟨rfl, quiet_below ⟨_, rfl⟩⟩

set_option maxHeartbeats 600000 in
set_option maxRecDepth 100000 in
theorem implThr_any (n k : Int) (w : World) : Calls Tryd.prog 39 #[.int .i64 n, .int .i64 k] w (GivesFO w (thrOf n k)) := by
  by_cases c1 : n < 1
  · have HV := Lib.hid (thrOf_no (n := n) (k := k) fun h => by have := h.1; omega)
    go_enter Tryd.func39, Tryd.ntmps39
    go_wp2_with fail
    refine bodyPost_ret (v := .tuple #[.agg #[.int .i64 0, .slice none 0 0], .int .i64 2]) (by simp [results, Tryd.results39, go_sem]) rfl ?_
    rw [HV.out]
    exact GivesFO.no _ (by go_grown)
  · by_cases c2 : 7 < n
    · have HV := Lib.hid (thrOf_no (n := n) (k := k) fun h => by have := h.1; omega)
      go_enter Tryd.func39, Tryd.ntmps39
      go_wp2_with fail
      refine bodyPost_ret (v := .tuple #[.agg #[.int .i64 0, .slice none 0 0], .int .i64 2]) (by simp [results, Tryd.results39, go_sem]) rfl ?_
      rw [HV.out]
      exact GivesFO.no _ (by go_grown)
    · have n1 : 1 ≤ n := by omega
      have n7 : n ≤ 7 := by omega
      clear c1 c2
      by_cases c3 : k < 0
      · have HV := Lib.hid (thrOf_no (n := n) (k := k) fun h => by have := h.2; omega)
        go_enter Tryd.func39, Tryd.ntmps39
        go_wp2_with fail
        refine bodyPost_ret (v := .tuple #[.agg #[.int .i64 0, .slice none 0 0], .int .i64 2]) (by simp [results, Tryd.results39, go_sem]) rfl ?_
        rw [HV.out]
        exact GivesFO.no _ (by go_grown)
      · by_cases c4 : n + 1 < k
        · have HV := Lib.hid (thrOf_no (n := n) (k := k) fun h => by have := h.2; omega)
          have k0 : 0 ≤ k := by omega
          clear c3
          go_enter Tryd.func39, Tryd.ntmps39
          go_wp2_with fail
          refine bodyPost_ret (v := .tuple #[.agg #[.int .i64 0, .slice none 0 0], .int .i64 2]) (by simp [results, Tryd.results39, go_sem]) rfl ?_
          rw [HV.out]
          exact GivesFO.no _ (by go_grown)
        · have HV := Lib.hid (thrOf_yes (n := n) (k := k) ⟨⟨n1, n7⟩, by omega, by omega⟩)
          have k0 : 0 ≤ k := by omega
          have k1 : k ≤ n + 1 := by omega
          obtain ⟨m, rfl⟩ : ∃ m : Nat, n = (m : Int) := ⟨n.toNat, by omega⟩
          clear c3 c4
          go_enter Tryd.func39, Tryd.ntmps39
          go_wp2_with fail
          have hB0 := ((Below.refl w.heap.size w).alloc (Nat.le_refl _) (.cells #[.int .i64 k] 2)).alloc (by simp) (.cells #[.int .i64 0, .slice none 0 0] 26)
          have hF0 : ((w.alloc (.cells #[.int .i64 k] 2)).alloc (.cells #[.int .i64 0, .slice none 0 0] 26)).heap[w.heap.size + 1]? = some (.cells #[.int .i64 0, .slice none 0 0] 26) := by
            have := World.alloc_heap_new (w.alloc (.cells #[.int .i64 k] 2)) (.cells #[.int .i64 0, .slice none 0 0] 26)
            rwa [World.size_alloc] at this
          have hK0 : ((w.alloc (.cells #[.int .i64 k] 2)).alloc (.cells #[.int .i64 0, .slice none 0 0] 26)).cell? ⟨w.heap.size, 0, none⟩ = some (.int .i64 k) := by simp [go_sem]
          have hZ0 : ((w.alloc (.cells #[.int .i64 k] 2)).alloc (.cells #[.int .i64 0, .slice none 0 0] 26)).heap.size = w.heap.size + 2 := by simp
          generalize ((w.alloc (.cells #[.int .i64 k] 2)).alloc (.cells #[.int .i64 0, .slice none 0 0] 26)) = w1 at *
          refine (famWhere_any m _ #[] #[.pointer (some ⟨w.heap.size, 0, none⟩)] _ w1 (by omega) (by omega) (thr_chooses w.heap.size k w1 hK0)).mono ?_
          rintro e w2 ⟨⟨v, us, rfl, hrow, hrows⟩, hb⟩
          obtain ⟨va, vc, rfl⟩ := rowForm hrow
          have hf' := (hb.block (w.heap.size + 1) (by omega)).trans hF0
          have c0 : w2.cell? ⟨w.heap.size + 1, 0, none⟩ = some (.int .i64 0) := by simp [World.cell?, hf']
          have c1 : w2.cell? ⟨w.heap.size + 1, 1, none⟩ = some (.slice none 0 0) := by simp [World.cell?, hf']
          have f0 : w2.frozen? ⟨w.heap.size + 1, 0, none⟩ = false := by simp [World.frozen?, hf']
          have f1 : w2.frozen? ⟨w.heap.size + 1, 1, none⟩ = false := by simp [World.frozen?, hf']
          have HR := Lib.hid hrow
          have HRS := Lib.hid hrows
          have HZ := Lib.hid hZ0
          have HB := Lib.hid (hB0.trans (hb.mono (by omega)))
          clear hrow hrows hb hf' hF0 hK0 hB0 hZ0
          replace HV := Lib.hid (show thrOf (m : Int) k = ⟨(m : Nat), famOf m (fun x => decide (k ≤ ((listOf x).length : Nat))), 0⟩ by have := HV.out; rwa [Int.toNat_natCast] at this)
          generalize famOf m (fun x => decide (k ≤ ((listOf x).length : Nat))) = Z at *
          go_wp2_with fail
          refine bodyPost_ret (v := .tuple #[.agg #[.int .i64 (m : Nat), .slice va Z.length vc], .int .i64 0]) (by simp [results, Tryd.results39, go_sem, c0, c1]) rfl ?_
          rw [HV.out]
          have hlt : w.heap.size + 1 < w1.heap.size := by have := HZ.out; omega
          have hle : w.heap.size ≤ w1.heap.size := by omega
          exact ⟨⟨_, us, rfl, ownsRow_mono (row_set (row_set HR.out hlt _) hlt _) hle, (HRS.out.map fun u zs hu => row_set (row_set hu hlt _) hlt _).mono hle⟩, (HB.out.setCell (by simp) _).setCell (by simp) _⟩
end Go.Proofs.YteifllengcacbaaDoor

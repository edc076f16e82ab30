/- Decimal of the model up to 99. -/
import Derived.Test.YtgndekojodpmkaaDoorLin
import Derived.LaidLaws
import Derived.Deep.RegionHeld3
import Derived.Deep.RegionLaw
import Derived.Deep.CutRange
namespace Go.Proofs.YtgndekojodpmkaaDoor
open Go.RowKit Go.Deep
set_option linter.unusedVariables false

theorem conv_one (W : World) (g : Nat) (x : Int) (h : W.heap[g]? = some (.cells #[.int .u8 x] 5 (0, 0))) : (convert 61 9 (.slice (some ⟨g, 0, none⟩) 1 1)).run Tryd.prog W = .ok (.string (strOfNums [x])) W := by
  refine run_convert_bytes_arg (P := Tryd.prog) W 61 5 Tryd.underlying61 Tryd.underlying5 g 0 1 1 [x] rfl (fun i hi => ?_) _ Tryd.underlying9
  have : i = 0 := by omega
  subst this
  simp [World.cell?, h]
theorem decs1 : ∀ n : Fin 10, (strOfNums [48 + (n.val : Int)]).data = (Lib.decDigits n.val).toArray := by decide +kernel
theorem decs2 : ∀ n : Fin 100, n.val < 10 ∨ (strOfNums [48 + ((n.val / 10 : Nat) : Int)] ++ strOfNums [48 + ((n.val % 10 : Nat) : Int)]).data = (Lib.decDigits n.val).toArray := by decide +kernel

set_option maxRecDepth 100000 in
theorem decimal1_any (n : Nat) (w : World) (h : n < 10) : Calls Tryd.prog 71 #[.int .i64 n] w fun e w' => e = .returned (.string ⟨(Lib.decDigits n).toArray⟩) ∧ Below w.heap.size w w' := by
  have hcv := conv_one (w.alloc (.cells #[.int .u8 (48 + (n : Int))] 5)) w.heap.size (48 + (n : Int)) (World.alloc_heap_new w _)
  have HD := Lib.hid (show strOfNums [48 + (n : Int)] = ⟨(Lib.decDigits n).toArray⟩ from congrArg ByteArray.mk (decs1 ⟨n, h⟩))
  go_enter Tryd.func71, Tryd.ntmps71
  go_wp2_with fail
  go_ret
  exact ⟨by rw [← HD.out]; rfl, (Below.refl _ _).alloc (Nat.le_refl _) _⟩

set_option maxRecDepth 100000 in
set_option maxHeartbeats 1000000 in
theorem decimal2_any (n : Nat) (w : World) (h0 : 10 ≤ n) (h : n < 100) : Calls Tryd.prog 71 #[.int .i64 n] w fun e w' => e = .returned (.string ⟨(Lib.decDigits n).toArray⟩) ∧ Below w.heap.size w w' := by
  have h1 : (10 : Int) ≤ (n : Int) := by omega
  have e1 : (n : Int).tdiv 10 = ((n / 10 : Nat) : Int) := by rw [Int.tdiv_eq_ediv_of_nonneg (by omega)]; omega
  have e2 : (n : Int) / 10 = ((n / 10 : Nat) : Int) := by omega
  have e3 : (n : Int).tmod 10 = ((n % 10 : Nat) : Int) := by rw [Int.tmod_eq_emod_of_nonneg (by omega)]; omega
  have e4 : (n : Int) % 10 = ((n % 10 : Nat) : Int) := by omega
  have b1 : n % 10 < 10 := by omega
  have b2 : n / 10 < 10 := by omega
  have HD := Lib.hid (show strOfNums [48 + ((n / 10 : Nat) : Int)] ++ strOfNums [48 + ((n % 10 : Nat) : Int)] = ⟨(Lib.decDigits n).toArray⟩ from by
    rcases decs2 ⟨n, h⟩ with q | q
    · exact absurd q (by show ¬ n < 10; omega)
    · exact congrArg ByteArray.mk q)
  have HD1 := Lib.hid (show (⟨(Lib.decDigits (n / 10)).toArray⟩ : ByteArray) = strOfNums [48 + ((n / 10 : Nat) : Int)] from (congrArg ByteArray.mk (decs1 ⟨n / 10, b2⟩)).symm)
  have hcd := fun W => decimal1_any (n / 10) W b2
  simp only [HD1.out] at hcd
  have HC := Lib.hid hcd
  clear hcd
  generalize n / 10 = q at *
  generalize n % 10 = r at *
  have s1 : (strOfNums [48 + (q : Int)]).size ≤ 1 := by simp [strOfNums, ByteArray.size]
  have s2 : (strOfNums [48 + (r : Int)]).size ≤ 1 := by simp [strOfNums, ByteArray.size]
  have hcv0 := conv_one (w.alloc (.cells #[.int .u8 (48 + (r : Int))] 5)) w.heap.size (48 + (r : Int)) (World.alloc_heap_new w _)
  have hcv1 := conv_one (w.drew.alloc (.cells #[.int .u8 (48 + (r : Int))] 5)) w.heap.size (48 + (r : Int)) (World.alloc_heap_new w.drew _)
  have hcv2 := conv_one (w.alloc (.cells #[.int .u8 (48 + (r : Int))] 5)).drew w.heap.size (48 + (r : Int)) (World.alloc_heap_new w _)
  have hw1 : IntKind.i64.wrap (q : Int) = (q : Int) := by rw [IntKind.wrap_i64]; omega
  have hw2 : IntKind.i64.wrap (48 + (r : Int)) = 48 + (r : Int) := by rw [IntKind.wrap_i64]; omega
  have hw3 : IntKind.u8.wrap (48 + (r : Int)) = 48 + (r : Int) := by rw [IntKind.wrap_u8]; omega
  have HA := Lib.hid (show Below w.heap.size w (w.alloc (.cells #[.int .u8 (48 + (r : Int))] 5)).drew from ((Below.refl w.heap.size w).alloc (Nat.le_refl _) (.cells #[.int .u8 (48 + (r : Int))] 5)).drew)
  have HSA := Lib.hid (show w.heap.size ≤ (w.alloc (.cells #[.int .u8 (48 + (r : Int))] 5)).drew.heap.size by simp)
  have HSB := Lib.hid (show w.heap.size < (w.alloc (.cells #[.int .u8 (48 + (r : Int))] 5)).drew.heap.size by simp)
  have HAN := Lib.hid (show (w.alloc (.cells #[.int .u8 (48 + (r : Int))] 5)).drew.heap[w.heap.size]? = some (.cells #[.int .u8 (48 + (r : Int))] 5 (0, 0)) from World.alloc_heap_new w _)
  generalize hu : strOfNums [48 + (q : Int)] = u at *
  generalize hv : strOfNums [48 + (r : Int)] = v at *
  have hsz : ¬ 9223372036854775807 < u.size + v.size := by omega
  go_enter Tryd.func71, Tryd.ntmps71
  go_wp2_with fail
  go_region_law (go_simp; go_at_call 71; refine (HC.out _).mono ?_; rintro e w8 ⟨rfl, hb8⟩; (first | (have HB8 := Lib.hid ((drew_step w).trans hb8); have hcv3 := conv_one (w8.alloc (.cells #[.int .u8 (48 + (r : Int))] 5)) w8.heap.size (48 + (r : Int)) (World.alloc_heap_new w8 _); rw [hv] at hcv3) | (have HB8 := Lib.hid (HA.out.trans (hb8.mono HSA.out)); have hcv4 := conv_one w8 w.heap.size (48 + (r : Int)) ((hb8.block w.heap.size HSB.out).trans HAN.out); rw [hv] at hcv4)))
  all_goals (
    go_wp2_with fail
    go_ret
    exact ⟨by rw [← HD.out]; rfl, by first | exact HB8.out.alloc HB8.out.size _ | exact HB8.out⟩)
theorem decimalI_any (x : Int) (h0 : 0 ≤ x) (h1 : x < 100) (w : World) : Calls Tryd.prog 71 #[.int .i64 x] w fun e w' => e = .returned (.string ⟨(Lib.decDigits x.toNat).toArray⟩) ∧ Below w.heap.size w w' := by
  obtain ⟨n, rfl⟩ : ∃ n : Nat, x = n := ⟨x.toNat, by omega⟩
  rw [Int.toNat_natCast]
  by_cases h : n < 10
  · exact decimal1_any n w h
  · exact decimal2_any n w (by omega) (by omega)

theorem dec_sz (x : Int) (h0 : 0 ≤ x) (h1 : x < 100) : (⟨(Lib.decDigits x.toNat).toArray⟩ : ByteArray).size ≤ 2 := by have := dec_two x.toNat (by omega); simpa [ByteArray.size] using this

end Go.Proofs.YtgndekojodpmkaaDoor

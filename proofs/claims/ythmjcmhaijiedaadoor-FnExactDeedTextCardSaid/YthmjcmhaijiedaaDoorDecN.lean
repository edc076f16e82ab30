/- Decimal of the model, for all numbers that are not negative and have up to twelve digits (on chapter 1's kit). -/
import Derived.Test.YthmjcmhaijiedaaDoorRvi
import Derived.Lib.ItoaLen
import Derived.Lib.ItoaMem
import Derived.LaidLaws
import Derived.Deep.RegionHeld3
import Derived.Deep.RegionLaw
import Derived.Deep.CutRange
namespace Go.Proofs.YthmjcmhaijiedaaDoor
open Go.RowKit Go.Deep
set_option linter.unusedVariables false

theorem conv_one' (W : World) (g : Nat) (x : Int) (h : W.heap[g]? = some (.cells #[.int .u8 x] 5 (0, 0))) : (convert 155 9 (.slice (some ⟨g, 0, none⟩) 1 1)).run Tryd.prog W = .ok (.string (strOfNums [x])) W := by
  refine run_convert_bytes_arg (P := Tryd.prog) W 155 5 Tryd.underlying155 Tryd.underlying5 g 0 1 1 [x] rfl (fun i hi => ?_) _ Tryd.underlying9
  have : i = 0 := by omega
  subst this
  simp [World.cell?, h]
theorem decs1' : ∀ n : Fin 10, (strOfNums [48 + (n.val : Int)]).data = (Lib.decDigits n.val).toArray := by decide +kernel
theorem digs_step {n : Nat} (h : ¬ n < 10) : (⟨(Lib.decDigits (n / 10)).toArray⟩ : ByteArray) ++ strOfNums [48 + ((n % 10 : Nat) : Int)] = ⟨(Lib.decDigits n).toArray⟩ := by
  have e : Lib.decDigits n = Lib.decDigits (n / 10) ++ [UInt8.ofNat (48 + n % 10)] := by
    rw [Lib.decDigits]
    rw [dif_neg h]
  have hr : n % 10 < 10 := by omega
  have e2 := decs1' ⟨n % 10, hr⟩
  simp only at e2
  rw [Lib.decDigits_one hr] at e2
  apply ByteArray.ext
  rw [ByteArray.data_append, e2, e]
  simp
theorem digs_size {n : Nat} (h : n < 1000000000000) : (⟨(Lib.decDigits n).toArray⟩ : ByteArray).size ≤ 21 := by
  have h1 := Lib.itoa_length_le (n : Int) (by omega) (by omega)
  rw [Lib.itoa_nonneg] at h1
  simpa [ByteArray.size] using h1

set_option maxRecDepth 100000 in
theorem decimal1'_any (n : Nat) (w : World) (h : n < 10) : Calls Tryd.prog 68 #[.int .i64 n] w fun e w' => e = .returned (.string ⟨(Lib.decDigits n).toArray⟩) ∧ Below w.heap.size w w' := by
  have hcv := conv_one' (w.alloc (.cells #[.int .u8 (48 + (n : Int))] 5)) w.heap.size (48 + (n : Int)) (World.alloc_heap_new w _)
  have HD := Lib.hid (show strOfNums [48 + (n : Int)] = ⟨(Lib.decDigits n).toArray⟩ from congrArg ByteArray.mk (decs1' ⟨n, h⟩))
  go_enter Tryd.func68, Tryd.ntmps68
  go_wp2_with fail
  go_ret
  exact ⟨by rw [← HD.out]; rfl, (Below.refl _ _).alloc (Nat.le_refl _) _⟩

set_option maxRecDepth 100000 in
set_option maxHeartbeats 1000000 in
theorem decimalN_any (n : Nat) : n < 1000000000000 → ∀ w : World, Calls Tryd.prog 68 #[.int .i64 n] w fun e w' => e = .returned (.string ⟨(Lib.decDigits n).toArray⟩) ∧ Below w.heap.size w w' := by
  induction n using Nat.strongRecOn with
  | _ n ih =>
  intro hN w
  by_cases h9 : n < 10
  · exact decimal1'_any n w h9
  have h1 : (10 : Int) ≤ (n : Int) := by omega
  have e1 : (n : Int).tdiv 10 = ((n / 10 : Nat) : Int) := by rw [Int.tdiv_eq_ediv_of_nonneg (by omega)]; omega
  have e2 : (n : Int) / 10 = ((n / 10 : Nat) : Int) := by omega
  have e3 : (n : Int).tmod 10 = ((n % 10 : Nat) : Int) := by rw [Int.tmod_eq_emod_of_nonneg (by omega)]; omega
  have e4 : (n : Int) % 10 = ((n % 10 : Nat) : Int) := by omega
  have b1 : n % 10 < 10 := by omega
  have b2 : n / 10 < 1000000000000 := by omega
  have HD := Lib.hid (digs_step h9)
  have s1 := digs_size b2
  have hcd := fun W => ih (n / 10) (by omega) b2 W
  clear ih
  generalize (⟨(Lib.decDigits (n / 10)).toArray⟩ : ByteArray) = u at *
  have HC := Lib.hid hcd
  clear hcd
  generalize n / 10 = q at *
  generalize n % 10 = r at *
  have s2 : (strOfNums [48 + (r : Int)]).size ≤ 1 := by simp [strOfNums, ByteArray.size]
  have hcv0 := conv_one' (w.alloc (.cells #[.int .u8 (48 + (r : Int))] 5)) w.heap.size (48 + (r : Int)) (World.alloc_heap_new w _)
  have hcv1 := conv_one' (w.drew.alloc (.cells #[.int .u8 (48 + (r : Int))] 5)) w.heap.size (48 + (r : Int)) (World.alloc_heap_new w.drew _)
  have hcv2 := conv_one' (w.alloc (.cells #[.int .u8 (48 + (r : Int))] 5)).drew w.heap.size (48 + (r : Int)) (World.alloc_heap_new w _)
  have hw1 : IntKind.i64.wrap (q : Int) = (q : Int) := by rw [IntKind.wrap_i64]; omega
  have hw2 : IntKind.i64.wrap (48 + (r : Int)) = 48 + (r : Int) := by rw [IntKind.wrap_i64]; omega
  have hw3 : IntKind.u8.wrap (48 + (r : Int)) = 48 + (r : Int) := by rw [IntKind.wrap_u8]; omega
  have HA := Lib.hid (show Below w.heap.size w (w.alloc (.cells #[.int .u8 (48 + (r : Int))] 5)).drew from ((Below.refl w.heap.size w).alloc (Nat.le_refl _) (.cells #[.int .u8 (48 + (r : Int))] 5)).drew)
  have HSA := Lib.hid (show w.heap.size ≤ (w.alloc (.cells #[.int .u8 (48 + (r : Int))] 5)).drew.heap.size by simp)
  have HSB := Lib.hid (show w.heap.size < (w.alloc (.cells #[.int .u8 (48 + (r : Int))] 5)).drew.heap.size by simp)
  have HAN := Lib.hid (show (w.alloc (.cells #[.int .u8 (48 + (r : Int))] 5)).drew.heap[w.heap.size]? = some (.cells #[.int .u8 (48 + (r : Int))] 5 (0, 0)) from World.alloc_heap_new w _)
  generalize hv : strOfNums [48 + (r : Int)] = v at *
  have hsz : ¬ 9223372036854775807 < u.size + v.size := by omega
  go_enter Tryd.func68, Tryd.ntmps68
  go_wp2_with fail
  go_region_law (go_simp; go_at_call 68; refine (HC.out _).mono ?_; rintro e w8 ⟨rfl, hb8⟩; (first | (have HB8 := Lib.hid ((drew_step w).trans hb8); have hcv3 := conv_one' (w8.alloc (.cells #[.int .u8 (48 + (r : Int))] 5)) w8.heap.size (48 + (r : Int)) (World.alloc_heap_new w8 _); rw [hv] at hcv3) | (have HB8 := Lib.hid (HA.out.trans (hb8.mono HSA.out)); have hcv4 := conv_one' w8 w.heap.size (48 + (r : Int)) ((hb8.block w.heap.size HSB.out).trans HAN.out); rw [hv] at hcv4)))
  all_goals (
    go_wp2_with fail
    go_ret
    exact ⟨by rw [← HD.out]; rfl, by first | exact HB8.out.alloc HB8.out.size _ | exact HB8.out⟩)
theorem decimalM_any (x : Int) (h0 : 0 ≤ x) (h1 : x < 1000000000000) (w : World) : Calls Tryd.prog 68 #[.int .i64 x] w fun e w' => e = .returned (.string ⟨(Lib.decDigits x.toNat).toArray⟩) ∧ Below w.heap.size w w' := by
  obtain ⟨n, rfl⟩ : ∃ n : Nat, x = n := ⟨x.toNat, by omega⟩
  rw [Int.toNat_natCast]
  exact decimalN_any n (by omega) w
end Go.Proofs.YthmjcmhaijiedaaDoor

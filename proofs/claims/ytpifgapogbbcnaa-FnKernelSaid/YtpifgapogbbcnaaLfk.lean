/- 'laws.FnKernel': for every matrix that a law draws, the program's kernel has n minus rank rows, they are independent, and each row of the matrix takes each of them to 0. No condition. -/
import Derived.Test.YtpifgapogbbcnaaDr3
import Derived.Test.YtpifgapogbbcnaaKof
import Derived.Test.YtpifgapogbbcnaaRd7
namespace Go.Proofs.Ytpifgapogbbcnaa
open Go.ChangeShapes Go.WideShapes Go.ChangeAt Go.RowKit Go.Deep Go.Joins
set_option linter.unusedVariables false
namespace Kern

theorem ker_rows {p : Int} {n : Nat} {z : List (List Int)} (hm : MatOk p n z) : MatOk p n (kerZ p n z) ∧ (echF p n z).length + (kerZ p n z).length = n ∧ (echF p n (kerZ p n z)).length = (kerZ p n z).length ∧
    ∀ i j, i < z.length → j < (kerZ p n z).length → dotTo (nth (nthL z i)) (nth (nthL (kerZ p n z) j)) n % p = 0 := by
  have hg := GoodM.of hm
  have hk := kerZ_mat hm
  simp only [Int.toNat_natCast] at hg hk
  refine ⟨hk, rank_ker hg, ker_rank hg, fun i j hi hj => ?_⟩
  obtain ⟨c, hc, hcF, e⟩ := kerZ_row hj
  rw [e]
  exact Int.emod_eq_zero_of_dvd (ker_zero hg hc hcF i hi)
theorem mat_lens {p c : Int} {z : List (List Int)} (h : MatOk p c z) : Lens z := ⟨by have := h.2.2.1; omega, fun r hr => by have h1 := h.2.1.2; have h2 := (h.2.2.2 r hr).1; omega⟩

set_option maxRecDepth 100000 in
set_option maxHeartbeats 4000000 in
theorem law (a0 : Option Addr) (z0 : List Int) (c0 : Nat) (a1 : Option Addr) (z1 : List Int) (c1 : Nat) (w : World) (hr0 : Bytes w a0 z0) (hl0 : z0.length ≤ 9223372036854775807) (hr1 : Bytes w a1 z1) (hl1 : z1.length ≤ 9223372036854775807) :
    Calls Try.prog 4 #[.slice a0 z0.length c0, .slice a1 z1.length c1] w fun e w' => e = .returned (.bool true) ∧ Below w.heap.size w w' := by
  have R0 := Lib.hid hr0
  clear hr0 hr1
  by_cases hlong : 3000 < z0.length ∨ 3000 < z1.length
  · have HT := Lib.hid (tell_true hlong)
    clear hlong
    go_enter Try.func4, Try.ntmps4
    go_wp2_with fail
    refine (a2Long_any a0 a1 z0 z1 c0 c1 w).mono ?_
    rintro e w' ⟨rfl, rfl⟩
    rw [HT.out]
    go_wp2_with fail
    go_ret
    exact ⟨rfl, Below.refl _ _⟩
  have HT := Lib.hid (tell_false hlong)
  have s0 : z0.length ≤ 3000 := by omega
  clear hlong
  go_enter Try.func4, Try.ntmps4
  go_wp2_with fail
  refine (a2Long_any a0 a1 z0 z1 c0 c1 w).mono ?_
  rintro e w' ⟨rfl, rfl⟩
  rw [HT.out]
  go_wp2_with fail
  refine (A2Matrix_any a0 z0 c0 w R0.out s0).mono ?_
  rintro e w1 ⟨⟨p, n, va, z, vc, rfl, hm, hn5, hz5, hr⟩, hb1⟩
  have HM := Lib.hid hm
  have HKF := Lib.hid (ker_rows hm)
  have HLZ := Lib.hid (mat_lens hm)
  have hp0 := hm.1.1
  have hp1 := hm.1.2.1
  have hba := al_b w1 (.cells #[.int .i64 p, .int .i64 (n : Int), .slice va z.length vc] 26)
  have hx : Boxes (w1.alloc (.cells #[.int .i64 p, .int .i64 (n : Int), .slice va z.length vc] 26)) w1.heap.size 26 #[.int .i64 p, .int .i64 (n : Int), .slice va z.length vc] := World.alloc_heap_new _ _
  have HR := Lib.hid (hr.step hba)
  have HBW := Lib.hid (chain hb1 hba)
  go_wp2_with fail
  have hkk := kerZ_mat hm
  refine (implKo_any p n va z vc _ HR.out HLZ.out).mono ?_
  simp only [ke_ok hm hkk]
  simp only [Int.toNat_natCast]
  clear hkk hm hba hr hb1
  generalize w1.alloc (.cells #[.int .i64 p, .int .i64 (n : Int), .slice va z.length vc] 26) = w2 at *
  generalize w1.heap.size = mo at *
  rintro e w3 ⟨⟨v, us, rfl, ho⟩, hb3⟩
  obtain ⟨ka, kc, rfl, hkr⟩ := ho.rows2
  have HXM := Lib.hid (hx.step hb3)
  replace HR := Lib.hid (HR.out.step hb3)
  replace HBW := Lib.hid (chain HBW.out hb3)
  have HRK := Lib.hid hkr
  clear hx hb3 hkr ho
  generalize kerZ p n z = K at *
  have HKM := Lib.hid HKF.out.1
  have HRN := Lib.hid HKF.out.2.1
  have HKR := Lib.hid HKF.out.2.2.1
  have HZ := Lib.hid HKF.out.2.2.2
  have HLK := Lib.hid (mat_lens HKM.out)
  have hkl : K.length ≤ 20 := HKM.out.2.2.1
  clear HKF
  have a0 := HXM.out.m0
  have a1 := HXM.out.m1
  have a2 := HXM.out.m2
  have al := HXM.out.lt
  have hbk := al_b w3 (.cells #[.int .i64 p, .int .i64 (n : Int), .slice ka K.length kc] 26)
  have hy : Boxes (w3.alloc (.cells #[.int .i64 p, .int .i64 (n : Int), .slice ka K.length kc] 26)) w3.heap.size 26 #[.int .i64 p, .int .i64 (n : Int), .slice ka K.length kc] := World.alloc_heap_new _ _
  go_wp2_with fail
  clear a0 a1 a2 al
  generalize w3.heap.size = ko at *
  replace HXM := Lib.hid (HXM.out.step (al_b w3 (.cells #[.int .i64 p, .int .i64 (n : Int), .slice ka K.length kc] 26)))
  replace HR := Lib.hid (HR.out.step (al_b w3 (.cells #[.int .i64 p, .int .i64 (n : Int), .slice ka K.length kc] 26)))
  replace HRK := Lib.hid (HRK.out.step (al_b w3 (.cells #[.int .i64 p, .int .i64 (n : Int), .slice ka K.length kc] 26)))
  replace HBW := Lib.hid (chain HBW.out (al_b w3 (.cells #[.int .i64 p, .int .i64 (n : Int), .slice ka K.length kc] 26)))
  have HXK := Lib.hid hy
  clear hbk hy
  generalize w3.alloc (.cells #[.int .i64 p, .int .i64 (n : Int), .slice ka K.length kc] 26) = w4 at *
  refine (implRo2_any p n va z vc w4 HR.out HLZ.out).mono ?_
  simp only [ec_ok HM.out, Int.toNat_natCast]
  rintro e w5 ⟨rfl, hb⟩
  replace HXM := Lib.hid (HXM.out.step hb)
  replace HXK := Lib.hid (HXK.out.step hb)
  replace HR := Lib.hid (HR.out.step hb)
  replace HRK := Lib.hid (HRK.out.step hb)
  replace HBW := Lib.hid (chain HBW.out hb)
  clear hb
  generalize hrv : (echF p n z).length = rv at *
  have HRV := Lib.hid hrv
  clear hrv
  have a0 := HXM.out.m0
  have a1 := HXM.out.m1
  have a2 := HXM.out.m2
  have al := HXM.out.lt
  have b0 := HXK.out.m0
  have b1 := HXK.out.m1
  have b2 := HXK.out.m2
  have bl := HXK.out.lt
  go_wp2_with fail
  refine (implRo2_any p n ka K kc w5 HRK.out HLK.out).mono ?_
  simp only [ec_ok HKM.out, Int.toNat_natCast]
  rw [HKR.out]
  rintro e w6 ⟨rfl, hb⟩
  clear a0 a1 a2 al b0 b1 b2 bl
  replace HXM := Lib.hid (HXM.out.step hb)
  replace HXK := Lib.hid (HXK.out.step hb)
  replace HR := Lib.hid (HR.out.step hb)
  replace HRK := Lib.hid (HRK.out.step hb)
  replace HBW := Lib.hid (chain HBW.out hb)
  clear hb
  have hle : rv + K.length ≤ 5 := by have := HRN.out; omega
  have tq : ((rv : Int) + (K.length : Int) != (n : Int)) = false := by have := HRN.out; simp; omega
  have a0 := HXM.out.m0
  have a1 := HXM.out.m1
  have a2 := HXM.out.m2
  have al := HXM.out.lt
  have b0 := HXK.out.m0
  have b1 := HXK.out.m1
  have b2 := HXK.out.m2
  have bl := HXK.out.lt
  go_wp2_with fail
  refine (specVm_any p n ka K kc w6 HRK.out HLK.out).mono ?_
  rw [tell_true HKM.out]
  rintro e w7 ⟨rfl, hb⟩
  clear a0 a1 a2 al b0 b1 b2 bl
  replace HXM := Lib.hid (HXM.out.step hb)
  replace HXK := Lib.hid (HXK.out.step hb)
  replace HR := Lib.hid (HR.out.step hb)
  replace HRK := Lib.hid (HRK.out.step hb)
  replace HBW := Lib.hid (chain HBW.out hb)
  clear hb
  have a0 := HXM.out.m0
  have a1 := HXM.out.m1
  have a2 := HXM.out.m2
  have al := HXM.out.lt
  have b0 := HXK.out.m0
  have b1 := HXK.out.m1
  have b2 := HXK.out.m2
  have bl := HXK.out.lt
  go_wp2_with fail
  clear a0 a1 a2 al b0 b1 b2 bl
  go_loopw [12, 13] (fun i j wr => ∃ k : Nat, k ≤ z.length ∧ i = .int .i64 k ∧ Quiet w7 wr)
    (fun i _ _ => z.length - (intOf i).toNat)
  case atStart => exact ⟨0, Nat.zero_le _, rfl, Quiet.refl _⟩
  case round =>
    obtain ⟨k, hk, rfl, hq⟩ := hrel
    have hbq := quiet_below hq
    have HQ := Lib.hid hq
    have a2 := (HXM.out.step hbq).m2
    have al := (HXM.out.step hbq).lt
    clear hq hbq
    obtain ⟨wo, rfl⟩ : ∃ wo : World, wo = wr := ⟨_, rfl⟩
    by_cases hlt : k < z.length
    · have hk0 : (k : Int) < (z.length : Int) := by omega
      go_wp2_with fail
      clear a2 al
      go_loopw [13] (fun j wr => ∃ l : Nat, l ≤ K.length ∧ j = .int .i64 l ∧ Quiet w7 wr)
        (fun j _ => K.length - (intOf j).toNat)
      case atStart => exact ⟨0, Nat.zero_le _, rfl, HQ.out⟩
      case round =>
        obtain ⟨l, hl, rfl, hq⟩ := hrel
        have hbq := quiet_below hq
        have HQ1 := Lib.hid hq
        have a0 := (HXM.out.step hbq).m0
        have a2 := (HXM.out.step hbq).m2
        have al := (HXM.out.step hbq).lt
        have b2 := (HXK.out.step hbq).m2
        have bl := (HXK.out.step hbq).lt
        have hrz := HR.out.step hbq
        have hrk := HRK.out.step hbq
        clear hq hbq
        by_cases hll : l < K.length
        · have hl0 : (l : Int) < (K.length : Int) := by omega
          rcases hrz with h | ⟨zb, zo, rfl, hzc⟩
          · rw [h] at hlt; exact absurd hlt (Nat.not_lt_zero _)
          rcases hrk with h | ⟨kb, ko2, rfl, hkc⟩
          · rw [h] at hll; exact absurd hll (Nat.not_lt_zero _)
          obtain ⟨ai, ci, d1, i1⟩ := hzc k hlt
          obtain ⟨bi, di, d2, i2⟩ := hkc l hll
          have e1 : (nthL z k).length = n := by have := (HM.out.2.2.2 k hlt).1; omega
          have e2 : (nthL K l).length = n := by have := (HKM.out.2.2.2 l hll).1; omega
          rw [e1] at d1
          rw [e2] at d2
          have l1 := World.block_lt_of_cell? _ _ d1
          have l2 := World.block_lt_of_cell? _ _ d2
          have I1 := Lib.hid i1
          have I2 := Lib.hid i2
          have HD := Lib.hid (show ∀ (W : World), Ints W ai (nthL z k) → Ints W bi (nthL K l) → Calls Try.prog 10 #[.int .i64 p, .slice ai n ci, .slice bi n di] W fun e w' => e = .returned (.int .i64 0) ∧ Quiet W w' from fun W h1 h2 => by
            have h0 := a2Dot_any p ai bi (nthL z k) (nthL K l) ci di n W h1 h2 e1 e2 (by omega) hp0 hp1 (HM.out.2.2.2 k hlt).2 (HKM.out.2.2.2 l hll).2
            rw [HZ.out k l hlt hll] at h0
            exact h0)
          clear hzc hkc i1 i2 e1 e2
          go_wp2_with fail
          go_quiet ((go_at_call 10; exact Calls.quiet_of (HD.out _ (I1.out.quiet ⟨_, rfl⟩) (I2.out.quiet ⟨_, rfl⟩))))
          go_wp2_with fail
          go_roundw
          case rel => exact ⟨l + 1, by omega, by go_num, HQ1.out.trans ⟨_, rfl⟩⟩
          case measure => simp [intOf]; omega
        · have hl0 : ¬ (l : Int) < (K.length : Int) := by omega
          clear hrz hrk
          go_wp2_with fail
          go_roundw
          case rel => exact ⟨k + 1, by omega, by go_num, HQ1.out⟩
          case measure => simp [intOf]; omega
    · have hk0 : ¬ (k : Int) < (z.length : Int) := by omega
      go_wp2_with fail
      go_ret
      exact ⟨rfl, chain HBW.out (quiet_below HQ.out)⟩

theorem own : ownKnob Try.prog.godebug = none := by kernel_rfl
theorem laidOut : laidOutB Try.prog = true := by kernel_rfl

set_option maxRecDepth 100000 in
theorem lifted (os : Os) (started : os.Started) (H : Type) (enc : TypeId × Value → H) :
    ReturnsInHanded {} Try.checked os 4 .any (Rows.fnKernelSpec.pre6 enc Try.prog Try.f4 Rows.fnKernelRow.domain false) (Rows.fnKernelSpec.post enc Try.prog Try.f4 false true false false) := by
  refine returnsInHanded_of_change (C := Try.checked) own started (by kernel_rfl) Try.func4
    (ChangeSpec.witness6 (enc := enc) (C := Try.checked) false ⟨#[], #[.slice none 0 0, .slice none 0 0], []⟩ 8 (by kernel_rfl) (by kernel_rfl) (by kernel_rfl) (by kernel_rfl)) ?_
  intro W base args ds gs before hval0 hW hcnd _
  have hval : ∀ (j : Nat) t v, Try.f4.params[j]? = some t → args[j]? = some v → Value.okWide Try.prog W .any base t v := hval0
  have hW' := hW
  obtain ⟨p, q, hA0, hV, rfl, hfz, hnd⟩ := hW
  have hA : DataW.TrodAll enc Try.prog W 0 (fun _ => true) true Try.f4.params.toList args.toList ds p := hA0
  rw [Try.params4] at hA hval
  obtain ⟨v0, vs0, d0, ds0, p0, q0, hargs, rfl, rfl, h0, r0⟩ := trodAll_cons hA
  obtain ⟨v1, vs1, d1, ds1, p1, q1, rfl, rfl, rfl, h1, r1⟩ := trodAll_cons r0
  obtain ⟨rfl, rfl, rfl⟩ := trodAll_nil r1
  obtain rfl : args = #[v0, v1] := by cases args; simp_all
  obtain ⟨rfl, rfl⟩ := trodVars_none hV
  have k0 := h0
  have lt0 : ∀ x ∈ p0, x.block < W.heap.size := by obtain ⟨m, hm⟩ := k0; exact DataW.trod_lt m _ _ _ hm
  obtain ⟨a0, len0, c0, rfl⟩ := okWide_slice Try.underlying22 (hval 0 22 v0 rfl rfl)
  obtain ⟨fuel0, hf0⟩ := h0
  obtain ⟨z0, rfl, rr0, ll0⟩ := open_bytes1 (by simpa [Value.cells] using hf0)
  have k1 := h1
  have lt1 : ∀ x ∈ p1, x.block < W.heap.size := by obtain ⟨m, hm⟩ := k1; exact DataW.trod_lt m _ _ _ hm
  obtain ⟨a1, len1, c1, rfl⟩ := okWide_slice Try.underlying22 (hval 1 22 v1 rfl rfl)
  obtain ⟨fuel1, hf1⟩ := h1
  obtain ⟨z1, rfl, rr1, ll1⟩ := open_bytes1 (by simpa [Value.cells] using hf1)
  clear hA0 hval0
  refine (law a0 z0 c0 a1 z1 c1 W rr0 ll0 rr1 ll1).mono fun e W' ⟨he, bel⟩ => ?_
  subst he
  exact ⟨_, rfl, _, _, _, [], _, [], hW', trodAll_mk1 (shut_bool Try.underlying4 _), (trodAll_cons_mk (Below.trod laidOut (by kernel_rfl) (of_decide_eq_true (by kernel_rfl)) k0 bel lt0) (trodAll_cons_mk (Below.trod laidOut (by kernel_rfl) (of_decide_eq_true (by kernel_rfl)) k1 bel lt1) trodAll_mk0)), rfl, bel.frame _, fun h => by cases h⟩

theorem over : Rows.fnKernelRow.holds Try.pinned (OpenSpec.ofChange Rows.fnKernelSpec) :=
  OpenClaim.holds_of_wide 4 Try.f4 rfl rfl rfl rfl rfl rfl rfl ⟨rfl, rfl, rfl, rfl, rfl⟩ rfl rfl rfl rfl rfl (by kernel_rfl) Try.func4 (by kernel_rfl)
    (of_decide_eq_true (by kernel_rfl)) (by unfold Func.isWrapper; first | (rw [if_pos (by decide +kernel)]; kernel_rfl) | (rw [if_neg (by decide +kernel)]; exact ⟨rfl, rfl⟩))
    (fun os started H enc _ => lifted os started H enc)

theorem proved : Rows.FnKernelSaid := over

end Kern
end Go.Proofs.Ytpifgapogbbcnaa

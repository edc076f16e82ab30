/- Powers and inverses of elements. -/
import Derived.Test.YtnebkhelobpkpaaElt
namespace Go.Proofs.Ytnebkhelobpkpaa
open Go.RowKit Go.Deep
set_option linter.unusedVariables false

theorem Boxes.set_other {W : World} {B : Nat} {t : TypeId} {vs : Array Value} (h : Boxes W B t vs) {B' : Nat} (hne : B' ≠ B) (o : Nat) (v : Value) : Boxes (W.setCell ⟨B', o, none⟩ v) B t vs := (Below.heap_setCell _ _ _ B (fun e => hne e.symm)).trans h

set_option maxRecDepth 100000 in
set_option maxHeartbeats 600000 in
theorem power_any (p a : Int) (n : Nat) (w : World) (hp : 2 ≤ p) (hp1 : p ≤ 31) (ha : Elem p a) (hn : n ≤ 1000) : Calls Try.prog 176 #[.agg #[.int .i64 p, .int .i64 a], .int .i64 n] w fun e w' => e = .returned (.agg #[.int .i64 p, .int .i64 (powOf p a n)]) ∧ Below w.heap.size w w' := by
  have hB := ((Below.refl w.heap.size w).alloc (Nat.le_refl _) (.cells #[.int .i64 p, .int .i64 a] 126)).alloc (by simp) (.cells #[.int .i64 0, .int .i64 0] 126)
  have hA : Boxes ((w.alloc (.cells #[.int .i64 p, .int .i64 a] 126)).alloc (.cells #[.int .i64 0, .int .i64 0] 126)) w.heap.size 126 #[.int .i64 p, .int .i64 a] := (Below.heap_alloc _ _ _ (by simp)).trans (World.alloc_heap_new w _)
  have hR : Boxes ((w.alloc (.cells #[.int .i64 p, .int .i64 a] 126)).alloc (.cells #[.int .i64 0, .int .i64 0] 126)) (w.heap.size + 1) 126 #[.int .i64 0, .int .i64 0] := by
    have := World.alloc_heap_new (w.alloc (.cells #[.int .i64 p, .int .i64 a] 126)) (.cells #[.int .i64 0, .int .i64 0] 126)
    simpa [Boxes] using this
  go_enter Try.func176, Try.ntmps176
  go_wp2_with fail
  refine (rem_any p a 1 _ hp hp1 (by omega)).mono ?_
  generalize (w.alloc (.cells #[.int .i64 p, .int .i64 a] 126)).alloc (.cells #[.int .i64 0, .int .i64 0] 126) = w0 at *
  rintro e w1 ⟨rfl, hb⟩
  replace hA := hA.step hb
  replace hR := hR.step hb
  have hs0 := hR.lt
  have hB1 : Below w.heap.size w w1 := hB.trans (hb.mono hB.size)
  have e1 : 1 % p = powOf p a 0 := by simp only [powOf]; exact Int.emod_eq_of_lt (by omega) (by omega)
  rw [e1]
  clear hb hB e1
  go_wp2_with fail
  have hP : Boxes (w1.alloc (.cells #[.int .i64 p, .int .i64 (powOf p a 0)] 126)) w1.heap.size 126 #[.int .i64 p, .int .i64 (powOf p a 0)] := World.alloc_heap_new w1 _
  have hB2 := hB1.alloc hB1.size (.cells #[.int .i64 p, .int .i64 (powOf p a 0)] 126)
  have hbq := (Below.refl w1.heap.size w1).alloc (Nat.le_refl _) (.cells #[.int .i64 p, .int .i64 (powOf p a 0)] 126)
  replace hA := hA.step hbq
  replace hR := hR.step hbq
  clear hbq hB1
  generalize w1.alloc (.cells #[.int .i64 p, .int .i64 (powOf p a 0)] 126) = w2 at *
  generalize w1.heap.size = B at *
  go_loopw [9] (fun i wr => ∃ k : Nat, i = .int .i64 k ∧ k ≤ n ∧ Below w.heap.size w wr ∧ Boxes wr w.heap.size 126 #[.int .i64 p, .int .i64 a] ∧ Boxes wr (w.heap.size + 1) 126 #[.int .i64 0, .int .i64 0] ∧ Boxes wr B 126 #[.int .i64 p, .int .i64 (powOf p a k)])
    (fun i _ => n - (intOf i).toNat)
  case atStart => exact ⟨0, rfl, Nat.zero_le _, hB2, hA, hR, hP⟩
  case round =>
    obtain ⟨k, rfl, hk, hbel, hbA, hbR, hbP⟩ := hrel
    clear hA hR hP hB2
    have HB := Lib.hid hbel
    have HA := Lib.hid hbA
    have HR := Lib.hid hbR
    have HP := Lib.hid hbP
    clear hbel hbA hbR hbP
    by_cases hlt : k < n
    · have c0 := HA.out.c0
      have c1 := HA.out.c1
      have d0 := HP.out.c0
      have d1 := HP.out.c1
      have hki : (k : Int) < (n : Int) := by omega
      have hx := powOf_elem hp a k
      have HE := Lib.hid (show powOf p a (k + 1) = powOf p a k * a % p from rfl)
      go_wp2_with fail
      refine (times_any p (powOf p a k) a wr hp hp1 hx ha).mono ?_
      rintro e w3 ⟨rfl, hb⟩
      have f0 := (HP.out.step hb).frozen 0
      have f1 := (HP.out.step hb).frozen 1
      have d0' := (HP.out.step hb).c0
      have d1' := (HP.out.step hb).c1
      have HP3 := Lib.hid (by have := (HP.out.step hb).set2 (.int .i64 p) (.int .i64 (powOf p a (k + 1))); exact this)
      have HB3 := Lib.hid ((HB.out.trans (hb.mono HB.out.size)).setCell (p := ⟨B, 0, none⟩) (by show w.heap.size ≤ B; omega) (.int .i64 p) |>.setCell (p := ⟨B, 1, none⟩) (by show w.heap.size ≤ B; omega) (.int .i64 (powOf p a (k + 1))))
      have HA3 := Lib.hid (((HA.out.step hb).set_other (B' := B) (by omega) 0 (.int .i64 p)).set_other (B' := B) (by omega) 1 (.int .i64 (powOf p a (k + 1))))
      have HR3 := Lib.hid (((HR.out.step hb).set_other (B' := B) (by omega) 0 (.int .i64 p)).set_other (B' := B) (by omega) 1 (.int .i64 (powOf p a (k + 1))))
      rw [← HE.out]
      clear c0 c1 d0 d1 hx hb
      go_wp2_with fail
      go_roundw
      case rel => exact ⟨k + 1, by go_num, by omega, HB3.out, HA3.out, HR3.out, HP3.out⟩
      case measure => simp [intOf]; omega
    · have HE := Lib.hid (show k = n by omega)
      have d0 := HP.out.c0
      have d1 := HP.out.c1
      have r0 := HR.out.c0
      have r1 := HR.out.c1
      have f0 := HR.out.frozen 0
      have f1 := HR.out.frozen 1
      go_wp2_with fail
      refine bodyPost_ret (v := .agg #[.int .i64 p, .int .i64 (powOf p a k)]) (by simp [results, Try.results176, go_sem, r0, r1]) rfl ⟨by rw [HE.out], ?_⟩
      exact (HB.out.setCell (by simp) _).setCell (by simp) _

theorem powerInv_any (p a : Int) (w : World) (hp : 2 ≤ p) (hp1 : p ≤ 31) (ha : Elem p a) : Calls Try.prog 176 #[.agg #[.int .i64 p, .int .i64 a], .int .i64 (p - 2)] w fun e w' => e = .returned (.agg #[.int .i64 p, .int .i64 (powOf p a (p - 2).toNat)]) ∧ Below w.heap.size w w' := by
  obtain ⟨n, hn⟩ : ∃ n : Nat, p - 2 = (n : Int) := ⟨(p - 2).toNat, by omega⟩
  rw [hn]
  exact power_any p a n w hp hp1 ha (by omega)

set_option maxRecDepth 100000 in
set_option maxHeartbeats 400000 in
theorem inverse_any (p a : Int) (w : World) (hp : 2 ≤ p) (hp1 : p ≤ 31) (ha : Elem p a) : Calls Try.prog 164 #[.agg #[.int .i64 p, .int .i64 a]] w fun e w' => e = .returned (.agg #[.int .i64 p, .int .i64 (powOf p a (p - 2).toNat)]) ∧ Below w.heap.size w w' := by
  have hB := ((Below.refl w.heap.size w).alloc (Nat.le_refl _) (.cells #[.int .i64 p, .int .i64 a] 126)).alloc (by simp) (.cells #[.int .i64 0, .int .i64 0] 126)
  have hA : Boxes ((w.alloc (.cells #[.int .i64 p, .int .i64 a] 126)).alloc (.cells #[.int .i64 0, .int .i64 0] 126)) w.heap.size 126 #[.int .i64 p, .int .i64 a] := (Below.heap_alloc _ _ _ (by simp)).trans (World.alloc_heap_new w _)
  have hR : Boxes ((w.alloc (.cells #[.int .i64 p, .int .i64 a] 126)).alloc (.cells #[.int .i64 0, .int .i64 0] 126)) (w.heap.size + 1) 126 #[.int .i64 0, .int .i64 0] := by
    have := World.alloc_heap_new (w.alloc (.cells #[.int .i64 p, .int .i64 a] 126)) (.cells #[.int .i64 0, .int .i64 0] 126)
    simpa [Boxes] using this
  generalize hx : powOf p a (p - 2).toNat = x
  have HX := Lib.hid hx
  have HA := Lib.hid ha
  clear hx ha
  go_enter Try.func164, Try.ntmps164
  go_wp2_with fail
  generalize (w.alloc (.cells #[.int .i64 p, .int .i64 a] 126)).alloc (.cells #[.int .i64 0, .int .i64 0] 126) = w2 at *
  have a0 := hA.c0
  have a1 := hA.c1
  have HR := Lib.hid hR
  have HB := Lib.hid hB
  clear hA hR hB
  have HW := Lib.hid (show IntKind.i64.wrap (p - 2) = p - 2 from IntWalk.i64_in _ (by omega))
  go_region_with (first | (go_at_call 127; refine (prime_any p _).mono ?_; rintro e w' ⟨rfl, rfl⟩) | (go_at_call 176; rw [HW.out]; refine (powerInv_any p a _ hp hp1 HA.out).mono ?_; rw [HX.out]; rintro e w3 ⟨rfl, hb⟩; have r0 := (HR.out.step ((drew_step _).trans hb)).c0; have r1 := (HR.out.step ((drew_step _).trans hb)).c1; have f0 := (HR.out.step ((drew_step _).trans hb)).frozen 0; have f1 := (HR.out.step ((drew_step _).trans hb)).frozen 1; have HB3 := Lib.hid (HB.out.trans (((drew_step _).trans hb).mono HB.out.size)); clear hb))
  all_goals (go_wp2_with fail; refine bodyPost_ret (v := .agg #[.int .i64 p, .int .i64 x]) (by simp [results, Try.results164, go_sem, r0, r1]) rfl ⟨rfl, ?_⟩; exact (HB3.out.setCell (by simp) _).setCell (by simp) _)
end Go.Proofs.Ytnebkhelobpkpaa

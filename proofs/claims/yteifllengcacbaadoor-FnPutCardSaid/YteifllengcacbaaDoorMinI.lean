/- WithoutHolder and TrustHolder, the model's and the program's. -/
import Derived.Test.YteifllengcacbaaDoorMin
namespace Go.Proofs.YteifllengcacbaaDoor
open Go.RowKit Go.Deep Go.Shelf
set_option linter.unusedVariables false

theorem room_1 : ∀ k : Nat, k < 7 → ∀ x : Nat, x < 64 → bits BinOp.and IntKind.u64 (x : Int) ((2 ^ k - 1 : Nat) : Int) = (lowN k x : Nat) := by decide +kernel
theorem room_2 : ∀ k : Nat, k < 7 → ∀ x : Nat, x < 64 → bits BinOp.andNot IntKind.u64 (x : Int) ((lowN k x : Nat) : Int) = (highN k x : Nat) := by decide +kernel
theorem room_3 : ∀ k : Nat, k < 7 → ∀ x : Nat, x < 64 → bits BinOp.or IntKind.u64 ((lowN k x : Nat) : Int) (((highN k x : Nat) : Int) * 2) = (wideN k x : Nat) := by decide +kernel
theorem room_4 : ∀ k : Nat, k < 7 → ∀ x : Nat, x < 64 → bits BinOp.or IntKind.u64 ((lowN k x : Nat) : Int) (IntKind.u64.wrap (((highN k x : Nat) : Int) * 2)) = (wideN k x : Nat) := by decide +kernel
theorem wide_128 : ∀ k : Nat, k < 7 → ∀ x : Nat, x < 64 → wideN k x < 128 := by decide +kernel
set_option maxRecDepth 100000 in
theorem room_any (x k : Nat) (w : World) (hx : x < 64) (hk : k < 7) : Calls Tryd.prog 59 #[.int .u64 x, .int .i64 (k : Nat)] w fun e w' => e = .returned (.int .u64 ((wideN k x : Nat) : Int)) ∧ w = w' := by
  have u1 := room_1 k hk x hx
  have u2 := room_2 k hk x hx
  have u3 := room_3 k hk x hx
  have u4 := room_4 k hk x hx
  have u5 := high_lt k hk x hx
  obtain ⟨M, hM⟩ : ∃ M, 2 ^ k - 1 = M := ⟨_, rfl⟩
  rw [hM] at u1
  have HM := Lib.hid hM
  clear hM
  generalize wideN k x = y at *
  generalize highN k x = hi at *
  generalize lowN k x = lo at *
  go_enter Tryd.func59, Tryd.ntmps59
  go_wp2_with (go_at_call 68; refine (allH_any k M w (by omega) HM.out).mono ?_; rintro e w' ⟨rfl, rfl⟩)
  go_ret
  exact ⟨rfl, rfl⟩

/-- What gives a table that a holder is to leave. -/
def Leaves (W : World) (h : Int) (zss : List (List Int)) (k : Int) (e : Ending) (w' : World) : Prop :=
  ((∃ T, FamOk h zss ∧ (0 ≤ k ∧ k < h) ∧ h ≠ 1 ∧ e = .returned (.tuple #[.pointer (some ⟨T, 0, none⟩), .int .i64 0]) ∧ TableAt w' T h.toNat (tabOf h zss)) ∨
   (∃ code : Int, (code = 1 ∨ code = 2 ∨ code = 4) ∧ (∀ tr, minOf tr h zss k = noFam code) ∧ e = .returned (.tuple #[.pointer none, .int .i64 code]))) ∧ Below W.heap.size W w'

set_option maxHeartbeats 600000 in
set_option maxRecDepth 100000 in
theorem leave_any (h : Int) (a : Option Addr) (zss : List (List Int)) (c : Nat) (k : Int) (w : World) (hr : Rows2 w a zss) (hl : Small2 zss) :
    Calls Tryd.prog 57 #[.agg #[.int .i64 h, .slice a zss.length c], .int .i64 k] w (Leaves w h zss k) := by
  have hb1 := (Below.refl w.heap.size w).alloc (Nat.le_refl _) (.cells #[.int .i64 h, .slice a zss.length c] 26)
  have c0 : (w.alloc (.cells #[.int .i64 h, .slice a zss.length c] 26)).cell? ⟨w.heap.size, 0, none⟩ = some (.int .i64 h) := by simp
  have hlt0 : w.heap.size < (w.alloc (.cells #[.int .i64 h, .slice a zss.length c] 26)).heap.size := by simp
  have HR := Lib.hid (hr.step hb1)
  have HL := Lib.hid hl
  have HB := Lib.hid hb1
  clear hr hl hb1
  by_cases hf : FamOk h zss
  · have HFO := Lib.hid hf
    have hh1 : 1 ≤ h := hf.1.1
    have hh7 : h ≤ 7 := hf.1.2
    clear hf
    go_enter Tryd.func57, Tryd.ntmps57
    go_wp2_with fail
    refine (tableOf_any h a zss c _ HR.out HL.out).mono ?_
    generalize w.alloc (.cells #[.int .i64 h, .slice a zss.length c] 26) = w1 at *
    rintro e w2 ⟨hy, -, hb⟩
    obtain ⟨T, rfl, hT, htab⟩ := hy HFO.out
    have HTA := Lib.hid htab
    have HB2 := Lib.hid (chain HB.out hb)
    have p0 := (hb.cell (p := ⟨w.heap.size, 0, none⟩) hlt0).trans c0
    clear htab hy hb c0
    by_cases k0 : k < 0
    · have HV := Lib.hid (fun tr => min_out (tr := tr) (k := k) HFO.out (fun q => by omega))
      go_wp2_with fail
      go_ret2
      exact ⟨.inr ⟨2, by simp, HV.out, rfl⟩, HB2.out⟩
    · have k1 : 0 ≤ k := by omega
      clear k0
      by_cases k2 : h ≤ k
      · have HV := Lib.hid (fun tr => min_out (tr := tr) (k := k) HFO.out (fun q => by omega))
        go_wp2_with fail
        go_ret2
        exact ⟨.inr ⟨2, by simp, HV.out, rfl⟩, HB2.out⟩
      · have k3 : k < h := by omega
        clear k2
        by_cases h1 : h = 1
        · have HV := Lib.hid (fun tr => min_one (tr := tr) (k := k) HFO.out ⟨k1, k3⟩ h1)
          have hob : (h == 1) = true := by rw [h1]; rfl
          have HH := Lib.hid h1
          clear h1
          go_wp2_with fail
          go_ret2
          exact ⟨.inr ⟨4, by simp, HV.out, rfl⟩, HB2.out⟩
        · have hob : (h == 1) = false := by simpa using h1
          have HH := Lib.hid h1
          clear h1
          go_wp2_with fail
          go_ret2
          exact ⟨.inl ⟨T, HFO.out, ⟨k1, k3⟩, HH.out, rfl, HTA.out⟩, HB2.out⟩
  · have HFO := Lib.hid hf
    have HV := Lib.hid (fun tr => min_bad (tr := tr) (k := k) hf)
    clear hf
    go_enter Tryd.func57, Tryd.ntmps57
    go_wp2_with fail
    refine (tableOf_any h a zss c _ HR.out HL.out).mono ?_
    generalize w.alloc (.cells #[.int .i64 h, .slice a zss.length c] 26) = w1 at *
    rintro e w2 ⟨-, hn, hb⟩
    obtain rfl := hn HFO.out
    have HB2 := Lib.hid (chain HB.out hb)
    clear hn hb c0
    go_wp2_with fail
    go_ret2
    exact ⟨.inr ⟨1, by simp, HV.out, rfl⟩, HB2.out⟩
end Go.Proofs.YteifllengcacbaaDoor

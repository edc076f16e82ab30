/- eqGate and eqGateS of the laws, at equal gates. -/
import Derived.Test.YtjhggglaglpgfaaTg
import Derived.Deep.RegionLaw
import Derived.Deep.DrawnRows
namespace Go.Proofs.Ytjhggglaglpgfaa
open Go.RowKit Go.Deep
set_option linter.unusedVariables false

set_option maxRecDepth 100000 in
theorem eqGate_of (h l : Int) (B1 B2 : Nat) (a1 a2 : Option Addr) (k : Fo) (c1 c2 : Nat) (w : World)
    (hI : ∀ W : World, Kids W B1 a1 k → Kids W B2 a2 k → Calls Try.prog 33 #[.slice a1 k.len c1, .slice a2 k.len c2] W fun e w' => e = .returned (.bool true) ∧ Below W.heap.size W w') (hk1 : Kids w B1 a1 k) (hk2 : Kids w B2 a2 k) :
    Calls Try.prog 12 #[.agg #[.int .i64 h, .int .i64 l, .slice a1 k.len c1], .agg #[.int .i64 h, .int .i64 l, .slice a2 k.len c2]] w fun e w' => e = .returned (.bool true) ∧ Below w.heap.size w w' := by
  have HI := Lib.hid hI
  have HK1 := Lib.hid hk1
  have HK2 := Lib.hid hk2
  clear hI hk1 hk2
  go_enter Try.func12, Try.ntmps12
  go_wp2_with fail
  have hb := ((Below.refl w.heap.size w).alloc (Nat.le_refl _) (.cells #[.int .i64 h, .int .i64 l, .slice a1 k.len c1] 28)).alloc (by simp) (.cells #[.int .i64 h, .int .i64 l, .slice a2 k.len c2] 28)
  refine (HI.out _ (HK1.out.below hb (Nat.le_refl _)) (HK2.out.below hb (Nat.le_refl _))).mono ?_
  generalize (w.alloc (.cells #[.int .i64 h, .int .i64 l, .slice a1 k.len c1] 28)).alloc (.cells #[.int .i64 h, .int .i64 l, .slice a2 k.len c2] 28) = w1 at *
  rintro e w2 ⟨rfl, hb2⟩
  have HB := Lib.hid (hb.trans (hb2.mono hb.size))
  clear hb hb2 HI HK1 HK2
  go_wp2_with fail
  go_ret
  exact ⟨rfl, HB.out⟩

set_option maxRecDepth 100000 in
set_option maxHeartbeats 2000000 in
theorem eqGateS_any : ∀ (m : Nat) (f : Fo), f.size < m → ∀ (B1 B2 : Nat) (a1 a2 : Option Addr) (c1 c2 : Nat) (w : World), f.len ≤ 9223372036854775807 → f.wide → Kids w B1 a1 f → Kids w B2 a2 f →
    Calls Try.prog 33 #[.slice a1 f.len c1, .slice a2 f.len c2] w fun e w' => e = .returned (.bool true) ∧ Below w.heap.size w w' := by
  intro m
  induction m with
  | zero => exact fun f hf => absurd hf (Nat.not_lt_zero _)
  | succ m ih =>
    intro f hf B1 B2 a1 a2 c1 c2 w hl hw hk1 hk2
    have HIH := Lib.hid ih
    have HK1 := Lib.hid hk1
    have HK2 := Lib.hid hk2
    have HW := Lib.hid hw
    clear ih hk1 hk2 hw
    go_enter Try.func33, Try.ntmps33
    go_wp2_with fail
    go_loopw [5] (fun i wr => ∃ (k : Nat), k ≤ f.len ∧ i = .int .i64 k ∧ Below w.heap.size w wr)
      (fun i _ => f.len - (intOf i).toNat)
    case atStart => exact ⟨0, Nat.zero_le _, rfl, Below.refl _ _⟩
    case round =>
      obtain ⟨k, hk, rfl, hb⟩ := hrel
      have HB := Lib.hid hb
      clear hb
      by_cases hlt : k < f.len
      · rcases HK1.out with h | ⟨b1, o1, rfl, hB1, hF1⟩
        · rw [h] at hlt; exact absurd hlt (Nat.not_lt_zero _)
        rcases HK2.out with h | ⟨b2, o2, rfl, hB2, hF2⟩
        · rw [h] at hlt; exact absurd hlt (Nat.not_lt_zero _)
        obtain ⟨g1, g2, ai, ci, g3, g4⟩ := hF1.get hlt
        obtain ⟨h1, h2, aj, cj, h3, h4⟩ := hF2.get hlt
        have x1 := cell_step HB.out g1
        have x2 := cell_step HB.out g2
        have x3 := cell_step HB.out g3
        have y1 := cell_step HB.out h1
        have y2 := cell_step HB.out h2
        have y3 := cell_step HB.out h3
        have HG := Lib.hid (g4.step HB.out)
        have HH := Lib.hid (h4.step HB.out)
        have hs := f.k_size hlt
        have hwk := Lib.hid (Fo.wide_get HW.out hlt)
        clear g1 g2 g3 g4 hF1 h1 h2 h3 h4 hF2
        have hi0 : (k : Int) < (f.len : Int) := by omega
        generalize f.hAt k = gh at *
        generalize f.lAt k = gl at *
        generalize f.kAt k = gk at *
        go_wp2_with fail
        go_region_law ((go_simp; go_at_call 12; refine (eqGate_of gh gl B1 B2 ai aj gk ci cj _ (fun W hW1 hW2 => HIH.out gk (by omega) B1 B2 ai aj ci cj W hwk.out.1 hwk.out.2 hW1 hW2) (by first | exact HG.out | exact HG.out.step (drew_step _)) (by first | exact HH.out | exact HH.out.step (drew_step _))).mono ?_; rintro e w5 ⟨rfl, hb5⟩; have HB5 := Lib.hid (show Below w.heap.size w w5 by first | exact HB.out.trans (hb5.mono HB.out.size) | exact HB.out.drew.trans (hb5.mono HB.out.size))))
        all_goals (
          clear x1 x2 x3 y1 y2 y3
          go_wp2_with fail
          go_roundw
          case rel => exact ⟨k + 1, by omega, by go_num, by first | exact HB5.out | exact HB5.out.drew⟩
          case measure => simp [intOf]; omega)
      · go_wp2_with fail
        go_ret
        exact ⟨rfl, HB.out⟩
end Go.Proofs.Ytjhggglaglpgfaa

/- heldGateS and heldGate at marked gates; markGate on gates that a call has made. -/
import Derived.Test.YtjhggglaglpgfaaMg
namespace Go.Proofs.Ytjhggglaglpgfaa
open Go.RowKit Go.Deep
set_option linter.unusedVariables false

set_option maxRecDepth 100000 in
set_option maxHeartbeats 2000000 in
theorem heldGateS_any : ∀ (m : Nat) (f : Fo), f.size < m → m ≤ 1048577 → ∀ (B : Nat) (a : Option Addr) (c : Nat) (k0 : Int) (w : World), Kids w B a (f.mk k0) → 0 ≤ k0 → k0 + 2 * (f.size : Int) ≤ 8388608 →
    Calls Try.prog 35 #[.slice a f.len c, .int .i64 k0] w fun e w' => e = .returned (.int .i64 (k0 + 2 * (f.size : Int))) ∧ w = w' := by
  intro m
  induction m with
  | zero => exact fun f hf => absurd hf (Nat.not_lt_zero _)
  | succ m ih =>
    intro f hf hm B a c k0 w hk hk0 hk1
    have hlen := f.len_le
    have HIH := Lib.hid ih
    have HK := Lib.hid hk
    have HMK := Lib.hid (fun i (h : i < f.len) => Fo.mk_get k0 f h)
    have HML := Lib.hid (Fo.mk_len k0 f)
    clear ih hk
    go_enter Try.func35, Try.ntmps35
    go_wp2_with fail
    go_loop [1, 5] (fun q i => ∃ (k : Nat) (u : Int), k ≤ f.len ∧ i = .int .i64 k ∧ q = .int .i64 u ∧ u = k0 + 2 * (f.pre k : Int))
      (fun _ i => f.len - (intOf i).toNat)
    case atStart => exact ⟨0, k0, Nat.zero_le _, rfl, rfl, by rw [f.pre_zero]; omega⟩
    case round =>
      obtain ⟨k, u, hk, rfl, rfl, hu⟩ := hrel
      have hpk := f.pre_le k
      have hu0 : 0 ≤ u := by omega
      have hu1 : u ≤ 8388608 := by omega
      have HU := Lib.hid hu
      clear hu
      by_cases hlt : k < f.len
      · rcases HK.out with h | ⟨b, o, rfl, hB, hF⟩
        · have := congrArg Fo.len h
          rw [HML.out] at this
          have h0 : f.len = 0 := this
          omega
        obtain ⟨g1, g2, ai, ci, g3, g4⟩ := hF.get (by rw [HML.out]; exact hlt)
        obtain ⟨h1, h2, h3⟩ := HMK.out k hlt
        rw [h1, ← HU.out] at g1
        rw [h2, ← HU.out] at g2
        rw [h3, Fo.mk_len] at g3
        rw [h3, ← HU.out] at g4
        have HG := Lib.hid (show Kids w B ai ((f.kAt k).mk (u + 1 + 1)) by rw [show u + 1 + 1 = u + 2 by omega]; exact g4)
        have hs := f.k_size hlt
        have hp := f.pre_succ hlt
        have hpl := f.pre_le (k + 1)
        have hi0 : (k : Int) < (f.len : Int) := by omega
        have HUU := Lib.hid (show u + 1 + 1 + 2 * ((f.kAt k).size : Int) = k0 + 2 * (f.pre (k + 1) : Int) by rw [hp, HU.out]; omega)
        have hb2 : u + 1 + 1 + 2 * ((f.kAt k).size : Int) ≤ 8388608 := by rw [HUU.out]; omega
        clear g4 hF h1 h2 h3 hp
        generalize f.kAt k = gk at *
        go_wp2_with fail
        refine (HIH.out gk (by omega) (by omega) B ai ci (u + 1 + 1) _ HG.out (by omega) hb2).mono ?_
        rintro e w4 ⟨rfl, rfl⟩
        have hv0 : 0 ≤ u + 1 + 1 + 2 * (gk.size : Int) := by omega
        have hv1 : ¬ (u + 1 + 1 + 2 * (gk.size : Int) < 0) := by omega
        go_wp2_with fail
        go_round
        case rel => exact ⟨k + 1, _, by omega, by go_num, rfl, HUU.out⟩
        case measure => simp [intOf]; omega
      · have hE : k = f.len := by omega
        have HU2 := Lib.hid (show u = k0 + 2 * (f.size : Int) by rw [HU.out, hE, f.pre_len])
        go_wp2_with fail
        go_ret
        exact ⟨by first | rw [HU2.out]; rfl | rfl, rfl⟩
set_option maxRecDepth 100000 in
theorem heldGate_any (h l : Int) (B : Nat) (a : Option Addr) (f : Fo) (c : Nat) (k0 : Int) (w : World) (hf : f.size ≤ 1048576) (hk : Kids w B a (f.mk k0)) (hk0 : 0 ≤ k0) (hk1 : k0 ≤ 4194304) :
    Calls Try.prog 14 #[.agg #[.int .i64 h, .int .i64 l, .slice a f.len c], .int .i64 k0] w fun e w' => e = .returned (.int .i64 (k0 + 2 * (f.size : Int))) ∧ Below w.heap.size w w' := by
  have hb := (Below.refl w.heap.size w).alloc (Nat.le_refl _) (.cells #[.int .i64 h, .int .i64 l, .slice a f.len c] 28)
  have HK := Lib.hid (hk.step hb)
  have HB := Lib.hid hb
  clear hk hb
  go_enter Try.func14, Try.ntmps14
  go_wp2_with fail
  refine (heldGateS_any 1048577 f (by omega) (Nat.le_refl _) B a c k0 _ HK.out hk0 (by omega)).mono ?_
  rintro e w2 ⟨rfl, rfl⟩
  have hv : ¬ (k0 + 2 * (f.size : Int) < 0) := by omega
  have hv0 : 0 ≤ k0 + 2 * (f.size : Int) := by omega
  go_wp2_with fail
  go_ret
  exact ⟨rfl, HB.out⟩
set_option maxRecDepth 100000 in
theorem markGateO_any (h l : Int) (lo hi : Nat) (a : Option Addr) (f : Fo) (c : Nat) (k0 : Int) (w : World) (hf : f.size ≤ 1048576) (hk : OG w lo hi a f) (hk0 : 0 ≤ k0) (hk1 : k0 ≤ 4194304) :
    Calls Try.prog 13 #[.agg #[.int .i64 h, .int .i64 l, .slice a f.len c], .int .i64 k0] w fun e w' => e = .returned (.int .i64 (k0 + 2 * (f.size : Int))) ∧ OG w' lo hi a (f.mk k0) ∧ Touch lo hi w w' := by
  have hb := (Below.refl w.heap.size w).alloc (Nat.le_refl _) (.cells #[.int .i64 h, .int .i64 l, .slice a f.len c] 28)
  have HK := Lib.hid (hk.step hb)
  have HT := Lib.hid (Touch.of_below lo hi hb)
  clear hk hb
  go_enter Try.func13, Try.ntmps13
  go_wp2_with fail
  refine (markOG_any 1048577 f (by omega) (Nat.le_refl _) lo hi a c k0 _ HK.out hk0 (by omega)).mono ?_
  generalize w.alloc (.cells #[.int .i64 h, .int .i64 l, .slice a f.len c] 28) = w1 at *
  rintro e w2 ⟨rfl, ho, ht, hz⟩
  have HO := Lib.hid ho
  have HT2 := Lib.hid (HT.out.trans ht)
  clear ho ht hz
  go_wp2_with fail
  go_ret
  exact ⟨rfl, HO.out, HT2.out⟩
end Go.Proofs.Ytjhggglaglpgfaa

/- szGate and szGateS of the laws. -/
import Derived.Test.YtjhggglaglpgfaaTg
namespace Go.Proofs.Ytjhggglaglpgfaa
open Go.RowKit Go.Deep
set_option linter.unusedVariables false

/-- There was no room, or there is, and what is left is less by the nodes. -/
def RoomG (left : Int) (n : Nat) (v : Int) : Prop := v = -1 ∨ (0 ≤ v ∧ v + (n : Int) ≤ left)

set_option maxRecDepth 100000 in
theorem szGate_of (h l : Int) (B : Nat) (a : Option Addr) (k : Fo) (c : Nat) (left : Int) (w : World)
    (hI : ∀ W : World, Kids W B a k → Calls Try.prog 26 #[.slice a k.len c, .int .i64 left] W fun e w' => GivesInt (RoomG left k.size) e ∧ Below W.heap.size W w') (hk : Kids w B a k) :
    Calls Try.prog 8 #[.agg #[.int .i64 h, .int .i64 l, .slice a k.len c], .int .i64 left] w fun e w' => GivesInt (RoomG left k.size) e ∧ Below w.heap.size w w' := by
  go_enter Try.func8, Try.ntmps8
  go_wp2_with fail
  have hb := (Below.refl w.heap.size w).alloc (Nat.le_refl _) (.cells #[.int .i64 h, .int .i64 l, .slice a k.len c] 24)
  refine (hI _ (hk.step hb)).mono ?_
  generalize w.alloc (.cells #[.int .i64 h, .int .i64 l, .slice a k.len c] 24) = w1 at *
  rintro e w2 ⟨⟨v, hv, rfl⟩, hb2⟩
  have HB := Lib.hid (hb.trans (hb2.mono hb.size))
  clear hb hb2 hI hk
  rcases hv with rfl | ⟨h0, h1⟩
  · go_wp2_with fail
    go_ret
    exact ⟨⟨_, .inl rfl, rfl⟩, HB.out⟩
  · go_wp2_with fail
    go_ret
    exact ⟨⟨_, .inr ⟨h0, h1⟩, rfl⟩, HB.out⟩

set_option maxRecDepth 100000 in
set_option maxHeartbeats 1000000 in
theorem szGateS_any : ∀ (m : Nat) (f : Fo), f.size ≤ m → ∀ (B : Nat) (a : Option Addr) (c : Nat) (left : Int) (w : World), Kids w B a f → f.len ≤ 9223372036854775807 → f.wide → 0 ≤ left → left ≤ 1048576 →
    Calls Try.prog 26 #[.slice a f.len c, .int .i64 left] w fun e w' => GivesInt (RoomG left f.size) e ∧ Below w.heap.size w w' := by
  intro m
  induction m with
  | zero =>
    intro f hf B a c left w hk hl hw h0 h1
    have hz : f = .nil := by cases f with
      | nil => rfl
      | cons => simp [Fo.size] at hf
    subst hz
    go_enter Try.func26, Try.ntmps26
    simp only [Fo.len]
    go_wp2_with fail
    go_rounds 1
    go_ret
    exact ⟨⟨_, .inr ⟨h0, by simp [Fo.size]⟩, rfl⟩, Below.refl _ _⟩
  | succ m ih =>
    intro f hf B a c left w hk hl hw h0 h1
    by_cases hneg : left - (f.len : Int) < 0
    · go_enter Try.func26, Try.ntmps26
      go_wp2_with fail
      go_ret
      exact ⟨⟨_, .inl rfl, rfl⟩, Below.refl _ _⟩
    have hpos : 0 ≤ left - (f.len : Int) := by omega
    have HIH := Lib.hid ih
    have HK := Lib.hid hk
    have HW := Lib.hid hw
    clear ih hk hw hneg
    go_enter Try.func26, Try.ntmps26
    go_wp2_with fail
    go_loopw [1, 5] (fun q1 i wr => ∃ (k : Nat) (v : Int), k ≤ f.len ∧ i = .int .i64 k ∧ q1 = .int .i64 v ∧ 0 ≤ v ∧ v + (f.len : Int) + (f.pre k : Int) ≤ left + k ∧ Below w.heap.size w wr)
      (fun _ i _ => f.len - (intOf i).toNat)
    case atStart => exact ⟨0, _, Nat.zero_le _, rfl, rfl, by omega, by rw [f.pre_zero]; omega, Below.refl _ _⟩
    case round =>
      obtain ⟨k, v, hk, rfl, rfl, hv0, hv1, hb⟩ := hrel
      have HB := Lib.hid hb
      have hkp := f.le_pre hk
      clear hb
      by_cases hlt : k < f.len
      · rcases HK.out with h | ⟨b, o, rfl, hB, hF⟩
        · rw [h] at hlt; exact absurd hlt (Nat.not_lt_zero _)
        obtain ⟨g1, g2, ai, ci, g3, g4⟩ := hF.get hlt
        have c1 := cell_step (HB.out.mono (Nat.le_refl _)) g1
        have c2 := cell_step (HB.out.mono (Nat.le_refl _)) g2
        have c3 := cell_step (HB.out.mono (Nat.le_refl _)) g3
        have HG := Lib.hid (g4.step HB.out)
        have hs := f.k_size hlt
        have hp := f.pre_succ hlt
        have hwk := Fo.wide_get HW.out hlt
        clear g1 g2 g3 g4 hF
        have hi0 : (k : Int) < (f.len : Int) := by omega
        generalize f.hAt k = gh at *
        generalize f.lAt k = gl at *
        go_wp2_with fail
        refine (szGate_of gh gl B ai (f.kAt k) ci v wr (fun W hW => HIH.out (f.kAt k) (by omega) B ai ci v W hW hwk.1 hwk.2 hv0 (by omega)) HG.out).mono ?_
        rintro e w1 ⟨⟨u, hu, rfl⟩, hb1⟩
        have HB1 := Lib.hid (HB.out.trans (hb1.mono HB.out.size))
        clear hb1 c1 c2 c3
        rcases hu with rfl | ⟨hu0, hu1⟩
        · go_wp2_with fail
          go_ret
          exact ⟨⟨_, .inl rfl, rfl⟩, HB1.out⟩
        · go_wp2_with fail
          go_roundw
          case rel => exact ⟨k + 1, u, by omega, by go_num, rfl, hu0, by rw [hp]; omega, HB1.out⟩
          case measure => simp [intOf]; omega
      · have hE : k = f.len := by omega
        have hpl := f.pre_len
        rw [hE, hpl] at hv1
        go_wp2_with fail
        go_ret
        exact ⟨⟨_, .inr ⟨hv0, by omega⟩, rfl⟩, HB.out⟩
end Go.Proofs.Ytjhggglaglpgfaa

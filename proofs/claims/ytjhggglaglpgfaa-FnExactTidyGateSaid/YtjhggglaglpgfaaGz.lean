/- GateSize, the program's and the model's. -/
import Derived.Test.YtjhggglaglpgfaaTg
namespace Go.Proofs.Ytjhggglaglpgfaa
open Go.RowKit Go.Deep
set_option linter.unusedVariables false

set_option maxRecDepth 100000 in
set_option maxHeartbeats 1000000 in
theorem l02Size_any : ∀ (m : Nat) (f : Fo), f.size < m → m ≤ 1048577 → ∀ (B pb po : Nat) (h l : Int) (a : Option Addr) (c : Nat) (w : World), w.cell? ⟨pb, po + 2, none⟩ = some (.slice a f.len c) → Kids w B a f →
    Calls Try.prog 56 #[.pointer (some ⟨pb, po, none⟩)] w fun e w' => e = .returned (.int .i64 (1 + f.size : Int)) ∧ w = w' := by
  intro m
  induction m with
  | zero => exact fun f hf => absurd hf (Nat.not_lt_zero _)
  | succ m ih =>
    intro f hf hm B pb po h l a c w p2 hk
    have hlen := f.len_le
    have HIH := Lib.hid ih
    have HK := Lib.hid hk
    clear ih hk
    go_enter Try.func56, Try.ntmps56
    go_wp2_with fail
    go_loop [3, 4] (fun n i => ∃ (k : Nat), k ≤ f.len ∧ i = .int .i64 k ∧ n = .int .i64 (1 + f.pre k : Int))
      (fun _ i => f.len - (intOf i).toNat)
    case atStart => exact ⟨0, Nat.zero_le _, rfl, by rw [f.pre_zero]; rfl⟩
    case round =>
      obtain ⟨k, hk, rfl, rfl⟩ := hrel
      have hpk := f.pre_le k
      by_cases hlt : k < f.len
      · rcases HK.out with h | ⟨b, o, rfl, hB, hF⟩
        · rw [h] at hlt; exact absurd hlt (Nat.not_lt_zero _)
        obtain ⟨g1, g2, ai, ci, g3, g4⟩ := hF.get hlt
        have HG := Lib.hid g4
        have hs := f.k_size hlt
        have hp := f.pre_succ hlt
        have hpl := f.pre_le (k + 1)
        clear g4 hF
        have hi0 : (k : Int) < (f.len : Int) := by omega
        generalize f.hAt k = gh at *
        generalize f.lAt k = gl at *
        generalize f.kAt k = gk at *
        go_wp2_with fail
        refine (HIH.out gk (by omega) (by omega) B b (o + k * 3) gh gl ai ci w g3 HG.out).mono ?_
        rintro e w1 ⟨rfl, rfl⟩
        go_wp2_with fail
        go_round
        case rel => exact ⟨k + 1, by omega, by go_num, by rw [hp]; go_num⟩
        case measure => simp [intOf]; omega
      · have hE : k = f.len := by omega
        go_wp2_with fail
        go_ret
        exact ⟨by rw [f.pre_len]; rfl, rfl⟩

set_option maxRecDepth 100000 in
set_option maxHeartbeats 1000000 in
theorem implGs_any : ∀ (m : Nat) (f : Fo), f.size < m → m ≤ 1048577 → ∀ (B : Nat) (h l : Int) (a : Option Addr) (c : Nat) (w : World), Kids w B a f →
    Calls Try.prog 61 #[.agg #[.int .i64 h, .int .i64 l, .slice a f.len c]] w fun e w' => e = .returned (.int .i64 (1 + f.size : Int)) ∧ Below w.heap.size w w' := by
  intro m
  induction m with
  | zero => exact fun f hf => absurd hf (Nat.not_lt_zero _)
  | succ m ih =>
    intro f hf hm B h l a c w hk
    have hlen := f.len_le
    have HIH := Lib.hid ih
    have HK := Lib.hid hk
    clear ih hk
    go_enter Try.func61, Try.ntmps61
    go_wp2_with fail
    have hb := (Below.refl w.heap.size w).alloc (Nat.le_refl _) (.cells #[.int .i64 h, .int .i64 l, .slice a f.len c] 28)
    generalize w.alloc (.cells #[.int .i64 h, .int .i64 l, .slice a f.len c] 28) = w1 at *
    go_loopw [3, 5, 9] (fun n q5 i wr => ∃ (k : Nat), k ≤ f.len ∧ i = .int .i64 k ∧ n = .int .i64 (1 + f.pre k : Int) ∧ Below w.heap.size w wr)
      (fun _ _ i _ => f.len - (intOf i).toNat)
    case atStart => exact ⟨0, Nat.zero_le _, rfl, by rw [f.pre_zero]; rfl, hb⟩
    case round =>
      obtain ⟨k, hk, rfl, rfl, hb2⟩ := hrel
      have HB := Lib.hid hb2
      clear hb hb2
      have hpk := f.pre_le k
      by_cases hlt : k < f.len
      · rcases HK.out with h | ⟨b, o, rfl, hB, hF⟩
        · rw [h] at hlt; exact absurd hlt (Nat.not_lt_zero _)
        obtain ⟨g1, g2, ai, ci, g3, g4⟩ := hF.get hlt
        have x1 := cell_step HB.out g1
        have x2 := cell_step HB.out g2
        have x3 := cell_step HB.out g3
        have HG := Lib.hid (g4.step HB.out)
        have hs := f.k_size hlt
        have hp := f.pre_succ hlt
        have hpl := f.pre_le (k + 1)
        clear g1 g2 g3 g4 hF
        have hi0 : (k : Int) < (f.len : Int) := by omega
        generalize f.hAt k = gh at *
        generalize f.lAt k = gl at *
        generalize f.kAt k = gk at *
        go_wp2_with fail
        have hb3 := (Below.refl wr.heap.size wr).alloc (Nat.le_refl _) (.cells #[.int .i64 gh, .int .i64 gl, .slice ai gk.len ci] 28)
        refine (HIH.out gk (by omega) (by omega) B gh gl ai ci _ (HG.out.step hb3)).mono ?_
        generalize wr.alloc (.cells #[.int .i64 gh, .int .i64 gl, .slice ai gk.len ci] 28) = w3 at *
        rintro e w4 ⟨rfl, hb4⟩
        have HB4 := Lib.hid (HB.out.trans ((hb3.trans (hb4.mono hb3.size)).mono HB.out.size))
        clear hb3 hb4 x1 x2 x3
        go_wp2_with fail
        go_roundw
        case rel => exact ⟨k + 1, by omega, by go_num, by rw [hp]; go_num, HB4.out⟩
        case measure => simp [intOf]; omega
      · have hE : k = f.len := by omega
        go_wp2_with fail
        go_ret
        rw [hE, f.pre_len]
        exact ⟨rfl, HB.out⟩

end Go.Proofs.Ytjhggglaglpgfaa

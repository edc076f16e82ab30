/- ValidGate, the program's and the model's. -/
import Derived.Test.YtjhggglaglpgfaaGz
import Derived.BigQuiet
import Derived.Deep.QuietTactic
namespace Go.Proofs.Ytjhggglaglpgfaa
open Go.RowKit Go.Deep
set_option linter.unusedVariables false

namespace Fo
/-- The depth of the deepest gate. -/
def dep : Fo → Nat
  | nil => 0
  | cons _ _ k r => max (k.dep + 1) r.dep
/-- That of the first gates. -/
def dpre : Fo → Nat → Nat
  | nil, _ => 0
  | cons _ _ _ _, 0 => 0
  | cons _ _ k r, i + 1 => max (k.dep + 1) (r.dpre i)
theorem dpre_zero (f : Fo) : f.dpre 0 = 0 := by cases f <;> rfl
theorem dpre_succ (f : Fo) {i : Nat} (h : i < f.len) : f.dpre (i + 1) = max (f.dpre i) ((f.kAt i).dep + 1) := by
  induction f generalizing i with
  | nil => simp [len] at h
  | cons a l k r _ ih =>
    cases i with
    | zero => simp [dpre, kAt, dpre_zero]
    | succ i =>
      have := ih (i := i) (by simp [len] at h; omega)
      simp only [dpre, kAt] at this ⊢
      omega
theorem dpre_len (f : Fo) : f.dpre f.len = f.dep := by
  induction f with
  | nil => rfl
  | cons a l k r _ ih => simp only [len, dpre, dep, ih]
theorem dep_le (f : Fo) : f.dep ≤ f.size := by
  induction f with
  | nil => simp [dep]
  | cons a l k r ih1 ih2 => simp only [dep, size]; omega
theorem dpre_le (f : Fo) (i : Nat) : f.dpre i ≤ f.size := by
  induction f generalizing i with
  | nil => simp [dpre]
  | cons a l k r _ ih =>
    have := k.dep_le
    cases i with
    | zero => simp [dpre]
    | succ i => have := ih i; simp only [dpre, size]; omega
/-- All gates have the form of one. -/
def form (n : Int) : Fo → Prop
  | nil => True
  | cons h l k r => ((k.len = 0 ∧ l = 0 ∧ 0 ≤ h ∧ h < n) ∨ (0 < k.len ∧ h = -1 ∧ 1 ≤ l ∧ l ≤ k.len ∧ k.form n)) ∧ r.form n
/-- A gate has the form of one. -/
def gform (n h l : Int) (f : Fo) : Prop := (f.len = 0 ∧ l = 0 ∧ 0 ≤ h ∧ h < n) ∨ (0 < f.len ∧ h = -1 ∧ 1 ≤ l ∧ l ≤ f.len ∧ f.form n)
theorem form_get {n : Int} {f : Fo} (h : f.form n) {i : Nat} (hi : i < f.len) : gform n (f.hAt i) (f.lAt i) (f.kAt i) := by
  induction f generalizing i with
  | nil => simp [len] at hi
  | cons a l k r _ ih =>
    cases i with
    | zero => exact h.1
    | succ i => exact ih h.2 (by simp [len] at hi; omega)
theorem form_of {n : Int} {f : Fo} (h : ∀ i, i < f.len → gform n (f.hAt i) (f.lAt i) (f.kAt i)) : f.form n := by
  induction f with
  | nil => trivial
  | cons a l k r _ ih => exact ⟨h 0 (by simp [len]), ih fun i hi => h (i + 1) (by simp [len]; omega)⟩
end Fo

set_option maxRecDepth 100000 in
theorem gIn_val (x lo hi : Int) (b : Bool) (w : World) (hb : (decide (lo ≤ x) && decide (x ≤ hi)) = b) :
    Calls Try.prog 38 #[.int .i64 x, .int .i64 lo, .int .i64 hi] w fun e w' => e = .returned (.bool b) ∧ w = w' := by
  by_cases h1 : lo ≤ x
  · by_cases h2 : x ≤ hi
    · obtain rfl : b = true := by rw [← hb]; simp [h1, h2]
      clear hb
      go_enter Try.func38, Try.ntmps38
      go_wp2
      go_ret
      exact ⟨rfl, rfl⟩
    · obtain rfl : b = false := by rw [← hb]; simp; omega
      clear hb
      go_enter Try.func38, Try.ntmps38
      go_wp2
      go_ret
      exact ⟨rfl, rfl⟩
  · obtain rfl : b = false := by rw [← hb]; simp; omega
    clear hb
    go_enter Try.func38, Try.ntmps38
    go_wp2
    go_ret
    exact ⟨rfl, rfl⟩
set_option maxRecDepth 100000 in
theorem gMax_val (x y m : Int) (w : World) (hm : m = max x y) :
    Calls Try.prog 60 #[.int .i64 x, .int .i64 y] w fun e w' => e = .returned (.int .i64 m) ∧ w = w' := by
  by_cases h : y < x
  · obtain rfl : m = x := by omega
    clear hm
    go_enter Try.func60, Try.ntmps60
    go_wp2
    go_ret
    exact ⟨rfl, rfl⟩
  · obtain rfl : m = y := by omega
    clear hm
    go_enter Try.func60, Try.ntmps60
    go_wp2
    go_ret
    exact ⟨rfl, rfl⟩

set_option maxRecDepth 100000 in
set_option maxHeartbeats 1000000 in
theorem l02Depth_any : ∀ (m : Nat) (f : Fo), f.size < m → m ≤ 1048577 → ∀ (B pb po : Nat) (a : Option Addr) (c : Nat) (w : World), w.cell? ⟨pb, po + 2, none⟩ = some (.slice a f.len c) → Kids w B a f →
    Calls Try.prog 49 #[.pointer (some ⟨pb, po, none⟩)] w fun e w' => e = .returned (.int .i64 (f.dep + 1 : Int)) ∧ w = w' := by
  intro m
  induction m with
  | zero => exact fun f hf => absurd hf (Nat.not_lt_zero _)
  | succ m ih =>
    intro f hf hm B pb po a c w p2 hk
    have hlen := f.len_le
    have hdl := f.dep_le
    have HIH := Lib.hid ih
    have HK := Lib.hid hk
    clear ih hk
    go_enter Try.func49, Try.ntmps49
    go_wp2_with fail
    go_loop [3, 4] (fun n i => ∃ (k : Nat), k ≤ f.len ∧ i = .int .i64 k ∧ n = .int .i64 (f.dpre k : Int))
      (fun _ i => f.len - (intOf i).toNat)
    case atStart => exact ⟨0, Nat.zero_le _, rfl, by rw [f.dpre_zero]; rfl⟩
    case round =>
      obtain ⟨k, hk, rfl, rfl⟩ := hrel
      have hpk := f.dpre_le k
      by_cases hlt : k < f.len
      · rcases HK.out with h | ⟨b, o, rfl, hB, hF⟩
        · rw [h] at hlt; exact absurd hlt (Nat.not_lt_zero _)
        obtain ⟨g1, g2, ai, ci, g3, g4⟩ := hF.get hlt
        have HG := Lib.hid g4
        have hs := f.k_size hlt
        have hp := f.dpre_succ hlt
        clear g4 hF
        have hi0 : (k : Int) < (f.len : Int) := by omega
        generalize f.hAt k = gh at *
        generalize f.lAt k = gl at *
        generalize f.kAt k = gk at *
        go_wp2_with fail
        refine (HIH.out gk (by omega) (by omega) B b (o + k * 3) ai ci w g3 HG.out).mono ?_
        rintro e w1 ⟨rfl, rfl⟩
        go_wp2_with fail
        refine (gMax_val (f.dpre k) (gk.dep + 1) (f.dpre (k + 1) : Int) w (by rw [hp]; omega)).mono ?_
        rintro e w1 ⟨rfl, rfl⟩
        go_wp2_with fail
        go_round
        case rel => exact ⟨k + 1, by omega, by go_num, by rw [hp]⟩
        case measure => simp [intOf]; omega
      · have hE : k = f.len := by omega
        have hpf := f.dpre_len
        go_wp2_with fail
        go_ret
        exact ⟨by first | rfl | (rw [hE, f.dpre_len]; rfl) | (rw [f.dpre_len]; rfl), rfl⟩

set_option maxRecDepth 100000 in
set_option maxHeartbeats 1000000 in
theorem implDep_any : ∀ (m : Nat) (f : Fo), f.size < m → m ≤ 1048577 → ∀ (B : Nat) (h l : Int) (a : Option Addr) (c : Nat) (w : World), Kids w B a f →
    Calls Try.prog 62 #[.agg #[.int .i64 h, .int .i64 l, .slice a f.len c]] w fun e w' => e = .returned (.int .i64 (f.dep + 1 : Int)) ∧ Below w.heap.size w w' := by
  intro m
  induction m with
  | zero => exact fun f hf => absurd hf (Nat.not_lt_zero _)
  | succ m ih =>
    intro f hf hm B h l a c w hk
    have hlen := f.len_le
    have HIH := Lib.hid ih
    have HK := Lib.hid hk
    clear ih hk
    go_enter Try.func62, Try.ntmps62
    go_wp2_with fail
    have hb := (Below.refl w.heap.size w).alloc (Nat.le_refl _) (.cells #[.int .i64 h, .int .i64 l, .slice a f.len c] 28)
    generalize w.alloc (.cells #[.int .i64 h, .int .i64 l, .slice a f.len c] 28) = w1 at *
    go_loopw [3, 5, 9] (fun n q5 i wr => ∃ (k : Nat), k ≤ f.len ∧ i = .int .i64 k ∧ n = .int .i64 (f.dpre k : Int) ∧ Below w.heap.size w wr)
      (fun _ _ i _ => f.len - (intOf i).toNat)
    case atStart => exact ⟨0, Nat.zero_le _, rfl, by rw [f.dpre_zero]; rfl, hb⟩
    case round =>
      obtain ⟨k, hk, rfl, rfl, hb2⟩ := hrel
      have HB := Lib.hid hb2
      clear hb hb2
      have hpk := f.dpre_le k
      by_cases hlt : k < f.len
      · rcases HK.out with h | ⟨b, o, rfl, hB, hF⟩
        · rw [h] at hlt; exact absurd hlt (Nat.not_lt_zero _)
        obtain ⟨g1, g2, ai, ci, g3, g4⟩ := hF.get hlt
        have x1 := cell_step HB.out g1
        have x2 := cell_step HB.out g2
        have x3 := cell_step HB.out g3
        have HG := Lib.hid (g4.step HB.out)
        have hs := f.k_size hlt
        have hp := f.dpre_succ hlt
        clear g1 g2 g3 g4 hF
        have hi0 : (k : Int) < (f.len : Int) := by omega
        generalize f.hAt k = gh at *
        generalize f.lAt k = gl at *
        generalize f.kAt k = gk at *
        go_wp2_with fail
        have hb3 := (Below.refl wr.heap.size wr).alloc (Nat.le_refl _) (.cells #[.int .i64 gh, .int .i64 gl, .slice ai gk.len ci] 28)
        refine (HIH.out gk (by omega) (by omega) B gh gl ai ci _ (HG.out.step hb3)).mono ?_
        generalize wr.alloc (.cells #[.int .i64 gh, .int .i64 gl, .slice ai gk.len ci] 28) = w3 at *
        rintro e w4 ⟨rfl, hb4⟩
        have HB4 := Lib.hid (HB.out.trans ((hb3.trans (hb4.mono hb3.size)).mono HB.out.size))
        clear hb3 hb4 x1 x2 x3
        go_wp2_with fail
        go_roundw
        case rel => exact ⟨k + 1, by omega, by go_num, by rw [hp]; congr 1; split <;> omega, HB4.out⟩
        case measure => simp [intOf]; omega
      · have hE : k = f.len := by omega
        have hp1 : f.dpre k ≤ 1048576 := by omega
        have hp2 : f.dep ≤ 1048576 := by have := f.dep_le; omega
        have hp3 : f.dpre f.len ≤ 1048576 := by rw [f.dpre_len]; exact hp2
        go_wp2_with fail
        go_ret
        rw [hE, f.dpre_len]
        exact ⟨rfl, HB.out⟩

set_option maxRecDepth 100000 in
set_option maxHeartbeats 1000000 in
theorem l02Left_any : ∀ (m : Nat) (f : Fo), f.size < m → m ≤ 1048577 → ∀ (B pb po : Nat) (a : Option Addr) (c : Nat) (left : Int) (w : World), w.cell? ⟨pb, po + 2, none⟩ = some (.slice a f.len c) → Kids w B a f → 0 ≤ left → left ≤ 60 →
    Calls Try.prog 48 #[.pointer (some ⟨pb, po, none⟩), .int .i64 left] w fun e w' => (∃ v : Int, e = .returned (.int .i64 v) ∧ ((0 ≤ v ∧ v + 1 + (f.size : Int) = left) ∨ (v = -1 ∧ left < 1 + (f.size : Int)))) ∧ w = w' := by
  intro m
  induction m with
  | zero => exact fun f hf => absurd hf (Nat.not_lt_zero _)
  | succ m ih =>
    intro f hf hm B pb po a c left w p2 hk h0 h60
    have hlen := f.len_le
    have HIH := Lib.hid ih
    have HK := Lib.hid hk
    clear ih hk
    go_enter Try.func48, Try.ntmps48
    go_wp2_with fail
    go_loop [1, 5] (fun q i => ∃ (k : Nat) (v : Int), k ≤ f.len ∧ i = .int .i64 k ∧ q = .int .i64 v ∧ ((0 ≤ v ∧ v + 1 + (f.pre k : Int) = left) ∨ (v = -1 ∧ left < 1 + (f.size : Int))))
      (fun _ i => f.len - (intOf i).toNat)
    case atStart =>
      refine ⟨0, left - 1, Nat.zero_le _, rfl, by first | rfl | go_num, ?_⟩
      rw [f.pre_zero]
      by_cases h : 0 < left
      · exact .inl ⟨by omega, by omega⟩
      · exact .inr ⟨by omega, by omega⟩
    case round =>
      obtain ⟨k, v, hk, rfl, rfl, hv⟩ := hrel
      have hpk := f.pre_le k
      rcases hv with ⟨hv0, hv1⟩ | ⟨rfl, hv1⟩
      · by_cases hlt : k < f.len
        · rcases HK.out with h | ⟨b, o, rfl, hB, hF⟩
          · rw [h] at hlt; exact absurd hlt (Nat.not_lt_zero _)
          obtain ⟨g1, g2, ai, ci, g3, g4⟩ := hF.get hlt
          have HG := Lib.hid g4
          have hs := f.k_size hlt
          have hp := f.pre_succ hlt
          have hpl := f.pre_le (k + 1)
          clear g4 hF
          have hi0 : (k : Int) < (f.len : Int) := by omega
          generalize f.hAt k = gh at *
          generalize f.lAt k = gl at *
          generalize f.kAt k = gk at *
          go_wp2_with fail
          refine (HIH.out gk (by omega) (by omega) B b (o + k * 3) ai ci v w g3 HG.out hv0 (by omega)).mono ?_
          rintro e w1 ⟨⟨u, rfl, hu⟩, rfl⟩
          rcases hu with ⟨hu0, hu1⟩ | ⟨rfl, hu1⟩
          · go_wp2_with fail
            go_round
            case rel => exact ⟨k + 1, u, by omega, by go_num, rfl, .inl ⟨hu0, by rw [hp]; omega⟩⟩
            case measure => simp [intOf]; omega
          · go_wp2_with fail
            go_round
            case rel => exact ⟨k + 1, -1, by omega, by go_num, rfl, .inr ⟨rfl, by omega⟩⟩
            case measure => simp [intOf]; omega
        · have hE : k = f.len := by omega
          have hpf := f.pre_len
          rw [hE, hpf] at hv1
          clear hpf
          go_wp2_with fail
          go_ret
          exact ⟨⟨v, rfl, .inl ⟨hv0, by omega⟩⟩, rfl⟩
      · have HV := Lib.hid hv1
        clear hv1
        by_cases hlt : k < f.len
        · have hi0 : (k : Int) < (f.len : Int) := by omega
          go_wp2_with fail
          go_ret
          exact ⟨⟨-1, rfl, .inr ⟨rfl, HV.out⟩⟩, rfl⟩
        · have hE : k = f.len := by omega
          go_wp2_with fail
          go_ret
          exact ⟨⟨-1, rfl, .inr ⟨rfl, HV.out⟩⟩, rfl⟩

theorem gform_nil {n h l : Int} : Fo.gform n h l .nil ↔ (l = 0 ∧ 0 ≤ h ∧ h < n) := by
  unfold Fo.gform
  simp [Fo.len]
theorem gform_some {n h l : Int} {f : Fo} (hf : 0 < f.len) : Fo.gform n h l f ↔ (h = -1 ∧ 1 ≤ l ∧ l ≤ f.len ∧ f.form n) := by
  unfold Fo.gform
  constructor
  · rintro (h1 | h1)
    · omega
    · exact h1.2
  · exact fun h1 => .inr ⟨hf, h1⟩

set_option maxRecDepth 100000 in
theorem implForm0_any (n h l : Int) (a : Option Addr) (c : Nat) (w : World) :
    Calls Try.prog 63 #[.int .i64 n, .agg #[.int .i64 h, .int .i64 l, .slice a 0 c]] w fun e w' => e = .returned (.bool (tell (Fo.gform n h l .nil))) ∧ Below w.heap.size w w' := by
  have HB := Lib.hid ((Below.refl w.heap.size w).alloc (Nat.le_refl _) (.cells #[.int .i64 h, .int .i64 l, .slice a 0 c] 28))
  by_cases h1 : l = 0
  · have t1 : (l == 0) = true := by simp [h1]
    by_cases h2 : 0 ≤ h
    · by_cases h3 : h < n
      · have HT := Lib.hid (tell_true (gform_nil.2 ⟨h1, h2, h3⟩))
        clear h1
        go_enter Try.func63, Try.ntmps63
        go_wp2_with fail
        go_ret
        exact ⟨ret_bool HT.out.symm, HB.out⟩
      · have HT := Lib.hid (tell_false (p := Fo.gform n h l .nil) (fun q => h3 (gform_nil.1 q).2.2))
        clear h1
        go_enter Try.func63, Try.ntmps63
        go_wp2_with fail
        go_ret
        exact ⟨ret_bool HT.out.symm, HB.out⟩
    · have HT := Lib.hid (tell_false (p := Fo.gform n h l .nil) (fun q => h2 (gform_nil.1 q).2.1))
      clear h1
      go_enter Try.func63, Try.ntmps63
      go_wp2_with fail
      go_ret
      exact ⟨ret_bool HT.out.symm, HB.out⟩
  · have t1 : (l == 0) = false := by simp [h1]
    have HT := Lib.hid (tell_false (p := Fo.gform n h l .nil) (fun q => h1 (gform_nil.1 q).1))
    clear h1
    go_enter Try.func63, Try.ntmps63
    go_wp2_with fail
    go_ret
    exact ⟨ret_bool HT.out.symm, HB.out⟩

set_option maxRecDepth 100000 in
set_option maxHeartbeats 2000000 in
theorem implForm_any : ∀ (m : Nat) (f : Fo), f.size < m → m ≤ 1048577 → ∀ (B : Nat) (n h l : Int) (a : Option Addr) (c : Nat) (w : World), Kids w B a f →
    Calls Try.prog 63 #[.int .i64 n, .agg #[.int .i64 h, .int .i64 l, .slice a f.len c]] w fun e w' => e = .returned (.bool (tell (Fo.gform n h l f))) ∧ Below w.heap.size w w' := by
  intro m
  induction m with
  | zero => exact fun f hf => absurd hf (Nat.not_lt_zero _)
  | succ m ih =>
    intro f hf hm B n h l a c w hk
    by_cases hz : f.len = 0
    · have hzn := Fo.len_zero hz
      subst hzn
      exact implForm0_any n h l a c w
    have hlen := f.len_le
    have HIH := Lib.hid ih
    have HK := Lib.hid hk
    have HB1 := Lib.hid ((Below.refl w.heap.size w).alloc (Nat.le_refl _) (.cells #[.int .i64 h, .int .i64 l, .slice a f.len c] 28))
    have hpos : 0 < f.len := by omega
    have HPOS := Lib.hid hpos
    have s0 : (f.len == 0) = false := by simp; omega
    have s1 : ((f.len : Int) == 0) = false := by simp; omega
    clear ih hk
    by_cases h1 : h = -1
    case neg =>
      have t1 : (h != -1) = true := by simp [h1]
      have HT := Lib.hid (tell_false (p := Fo.gform n h l f) (fun q => h1 ((gform_some hpos).1 q).1))
      clear h1 hpos
      go_enter Try.func63, Try.ntmps63
      go_wp2_with fail
      go_ret
      exact ⟨ret_bool HT.out.symm, HB1.out⟩
    have t1 : (h != -1) = false := by simp [h1]
    by_cases h2 : 1 ≤ l
    case neg =>
      have HT := Lib.hid (tell_false (p := Fo.gform n h l f) (fun q => h2 ((gform_some hpos).1 q).2.1))
      clear h1 hpos
      go_enter Try.func63, Try.ntmps63
      go_wp2_with fail
      go_ret
      exact ⟨ret_bool HT.out.symm, HB1.out⟩
    by_cases h3 : l ≤ (f.len : Int)
    case neg =>
      have HT := Lib.hid (tell_false (p := Fo.gform n h l f) (fun q => h3 ((gform_some hpos).1 q).2.2.1))
      clear h1 hpos
      go_enter Try.func63, Try.ntmps63
      go_wp2_with fail
      go_ret
      exact ⟨ret_bool HT.out.symm, HB1.out⟩
    have HT := Lib.hid (tell_congr (p := f.form n) (q := Fo.gform n h l f) ⟨fun q => (gform_some hpos).2 ⟨h1, h2, h3, q⟩, fun q => ((gform_some hpos).1 q).2.2.2⟩)
    clear h1 hpos
    go_enter Try.func63, Try.ntmps63
    go_wp2_with fail
    have hb1 := HB1.out
    generalize w.alloc (.cells #[.int .i64 h, .int .i64 l, .slice a f.len c] 28) = w1 at *
    go_loopw [6, 44] (fun _ i wr => ∃ (k : Nat), k ≤ f.len ∧ i = .int .i64 k ∧ Below w.heap.size w wr ∧ ∀ j, j < k → Fo.gform n (f.hAt j) (f.lAt j) (f.kAt j))
      (fun _ i _ => f.len - (intOf i).toNat)
    case atStart => exact ⟨0, Nat.zero_le _, rfl, hb1, fun j hj => absurd hj (Nat.not_lt_zero _)⟩
    case round =>
      obtain ⟨k, hk, rfl, hb2, hall⟩ := hrel
      have HB := Lib.hid hb2
      have HALL := Lib.hid hall
      clear hb1 hb2 hall
      by_cases hlt : k < f.len
      · rcases HK.out with h | ⟨b, o, rfl, hB, hF⟩
        · rw [h] at hlt; exact absurd hlt (Nat.not_lt_zero _)
        obtain ⟨g1, g2, ai, ci, g3, g4⟩ := hF.get hlt
        have x1 := cell_step HB.out g1
        have x2 := cell_step HB.out g2
        have x3 := cell_step HB.out g3
        have HG := Lib.hid (g4.step HB.out)
        have hs := f.k_size hlt
        have HN := Lib.hid (show ¬ Fo.gform n (f.hAt k) (f.lAt k) (f.kAt k) → ¬ f.form n from fun q q2 => q (Fo.form_get q2 hlt))
        have HY := Lib.hid (show Fo.gform n (f.hAt k) (f.lAt k) (f.kAt k) → ∀ j, j < k + 1 → Fo.gform n (f.hAt j) (f.lAt j) (f.kAt j) from fun q j hj => by
          by_cases e : j = k
          · subst e; exact q
          · exact HALL.out j (by omega))
        clear g1 g2 g3 g4 hF
        have hi0 : (k : Int) < (f.len : Int) := by omega
        go_wp2_with fail
        have hb3 := (Below.refl wr.heap.size wr).alloc (Nat.le_refl _) (.cells #[.int .i64 (f.hAt k), .int .i64 (f.lAt k), .slice ai (f.kAt k).len ci] 28)
        refine (HIH.out (f.kAt k) (by omega) (by omega) B n (f.hAt k) (f.lAt k) ai ci _ (HG.out.step hb3)).mono ?_
        generalize wr.alloc (.cells #[.int .i64 (f.hAt k), .int .i64 (f.lAt k), .slice ai (f.kAt k).len ci] 28) = w3 at *
        rintro e w4 ⟨rfl, hb4⟩
        have HB4 := Lib.hid (HB.out.trans ((hb3.trans (hb4.mono hb3.size)).mono HB.out.size))
        clear hb3 hb4 x1 x2 x3
        rcases Classical.em (Fo.gform n (f.hAt k) (f.lAt k) (f.kAt k)) with q | q
        · rw [tell_true q]
          have HQ := Lib.hid (HY.out q)
          clear q
          go_wp2_with fail
          go_roundw
          case rel => exact ⟨k + 1, by omega, by go_num, HB4.out, HQ.out⟩
          case measure => simp [intOf]; omega
        · rw [tell_false q]
          have HQ := Lib.hid (tell_false (HN.out q))
          clear q
          go_wp2_with fail
          go_ret
          exact ⟨ret_bool (by rw [← HT.out, HQ.out]), HB4.out⟩
      · have HQ := Lib.hid (tell_true (p := f.form n) (Fo.form_of fun i hi => HALL.out i (by omega)))
        go_wp2_with fail
        go_ret
        exact ⟨ret_bool (by rw [← HT.out, HQ.out]), HB.out⟩

set_option maxRecDepth 100000 in
theorem specForm0_any (n h l : Int) (pb po : Nat) (a : Option Addr) (c : Nat) (w : World) (hn1 : 1 ≤ n) (hn7 : n ≤ 7)
    (p0 : w.cell? ⟨pb, po, none⟩ = some (.int .i64 h)) (p1 : w.cell? ⟨pb, po + 1, none⟩ = some (.int .i64 l)) (p2 : w.cell? ⟨pb, po + 2, none⟩ = some (.slice a 0 c)) :
    Calls Try.prog 50 #[.int .i64 n, .pointer (some ⟨pb, po, none⟩)] w fun e w' => e = .returned (.bool (tell (Fo.gform n h l .nil))) ∧ Quiet w w' := by
  by_cases h1 : l = 0
  case neg =>
    have t1 : (l == 0) = false := by simp [h1]
    have HT := Lib.hid (tell_false (p := Fo.gform n h l .nil) (fun q => h1 (gform_nil.1 q).1))
    clear h1
    go_enter Try.func50, Try.ntmps50
    go_wp2_with fail
    go_ret
    exact ⟨ret_bool HT.out.symm, Quiet.refl _⟩
  have t1 : (l == 0) = true := by simp [h1]
  by_cases h2 : 0 ≤ h ∧ h < n
  · have HT := Lib.hid (tell_true (gform_nil.2 ⟨h1, h2⟩))
    have HI := Lib.hid (show (decide (0 ≤ h) && decide (h ≤ n - 1)) = true by simp; omega)
    clear h1 h2
    go_enter Try.func50, Try.ntmps50
    go_wp2_with fail
    refine (gIn_val h 0 (n - 1) true _ HI.out).mono ?_
    rintro e w1 ⟨rfl, rfl⟩
    go_wp2_with fail
    go_ret
    exact ⟨ret_bool HT.out.symm, Quiet.refl _⟩
  · have HT := Lib.hid (tell_false (p := Fo.gform n h l .nil) (fun q => h2 (gform_nil.1 q).2))
    have HI := Lib.hid (show (decide (0 ≤ h) && decide (h ≤ n - 1)) = false by simp; omega)
    clear h1 h2
    go_enter Try.func50, Try.ntmps50
    go_wp2_with fail
    refine (gIn_val h 0 (n - 1) false _ HI.out).mono ?_
    rintro e w1 ⟨rfl, rfl⟩
    go_wp2_with fail
    go_ret
    exact ⟨ret_bool HT.out.symm, Quiet.refl _⟩
end Go.Proofs.Ytjhggglaglpgfaa

/- SameGate, the program's and the model's. -/
import Derived.Test.YtocnjojncmjfgaaTg
import Derived.BigQuiet
import Derived.Deep.QuietTactic
namespace Go.Proofs.Ytocnjojncmjfgaa
open Go.RowKit Go.Deep
set_option linter.unusedVariables false

theorem Fo.ext' {f g : Fo} (hl : f.len = g.len) (h : ∀ i, i < f.len → f.hAt i = g.hAt i ∧ f.lAt i = g.lAt i ∧ f.kAt i = g.kAt i) : f = g := by
  induction f generalizing g with
  | nil => exact (Fo.len_zero hl.symm).symm
  | cons a l k r _ ih =>
    cases g with
    | nil => simp [Fo.len] at hl
    | cons a' l' k' r' =>
      have h0 := h 0 (by simp [Fo.len])
      simp only [Fo.hAt, Fo.lAt, Fo.kAt] at h0
      rw [h0.1, h0.2.1, h0.2.2, ih (g := r') (by simpa [Fo.len] using hl) (fun i hi => h (i + 1) (by simp [Fo.len]; omega))]
theorem Kids.quiet {W W' : World} {B : Nat} {a : Option Addr} {f : Fo} (h : Kids W B a f) (hq : Quiet W W') : Kids W' B a f := h.step (by obtain ⟨n, rfl⟩ := hq; exact below_drewN (Below.refl _ _) n)
theorem cell_quiet {W W' : World} (hq : Quiet W W') {p : Addr} {v : Value} (h : W.cell? p = some v) : W'.cell? p = some v := cell_step (by obtain ⟨n, rfl⟩ := hq; exact below_drewN (Below.refl _ _) n) h
set_option maxRecDepth 100000 in
set_option maxHeartbeats 2000000 in
theorem l02Same_any : ∀ (m : Nat) (f g : Fo), f.size < m → m ≤ 1048577 → g.size ≤ 1048576 → ∀ (B1 B2 pb po qb qo : Nat) (h1 l1 h2 l2 : Int) (a1 a2 : Option Addr) (c1 c2 : Nat) (w : World),
    w.cell? ⟨pb, po, none⟩ = some (.int .i64 h1) → w.cell? ⟨pb, po + 1, none⟩ = some (.int .i64 l1) → w.cell? ⟨pb, po + 2, none⟩ = some (.slice a1 f.len c1) →
    w.cell? ⟨qb, qo, none⟩ = some (.int .i64 h2) → w.cell? ⟨qb, qo + 1, none⟩ = some (.int .i64 l2) → w.cell? ⟨qb, qo + 2, none⟩ = some (.slice a2 g.len c2) → Kids w B1 a1 f → Kids w B2 a2 g →
    Calls Try.prog 30 #[.pointer (some ⟨pb, po, none⟩), .pointer (some ⟨qb, qo, none⟩)] w fun e w' => e = .returned (.bool (tell (h1 = h2 ∧ l1 = l2 ∧ f = g))) ∧ Quiet w w' := by
  intro m
  induction m with
  | zero => exact fun f _ hf => absurd hf (Nat.not_lt_zero _)
  | succ m ih =>
    intro f g hf hm hg B1 B2 pb po qb qo h1 l1 h2 l2 a1 a2 c1 c2 w p0 p1 p2 q0 q1 q2 hk1 hk2
    have hlf := f.len_le
    have hlg := g.len_le
    have HIH := Lib.hid ih
    have HK1 := Lib.hid hk1
    have HK2 := Lib.hid hk2
    clear ih hk1 hk2
    by_cases hh : h1 = h2
    case neg =>
      have t1 : (h1 != h2) = true := by simp [hh]
      have HN := Lib.hid (tell_false (p := h1 = h2 ∧ l1 = l2 ∧ f = g) (fun e => hh e.1))
      clear hh
      go_enter Try.func30, Try.ntmps30
      go_wp2_with fail
      go_quiet (fail)
      go_wp2_with fail
      go_ret
      exact ⟨ret_bool HN.out.symm, _, rfl⟩
    have t1 : (h1 != h2) = false := by simp [hh]
    by_cases hl : l1 = l2
    case neg =>
      have t2 : (l1 != l2) = true := by simp [hl]
      have HN := Lib.hid (tell_false (p := h1 = h2 ∧ l1 = l2 ∧ f = g) (fun e => hl e.2.1))
      clear hl hh
      go_enter Try.func30, Try.ntmps30
      go_wp2_with fail
      go_quiet (fail)
      go_wp2_with fail
      go_ret
      exact ⟨ret_bool HN.out.symm, _, rfl⟩
    have t2 : (l1 != l2) = false := by simp [hl]
    by_cases hn : f.len = g.len
    case neg =>
      have t3 : ((f.len : Int) != (g.len : Int)) = true := by simp; omega
      have t4 : (f.len != g.len) = true := by simp; omega
      have HN := Lib.hid (tell_false (p := h1 = h2 ∧ l1 = l2 ∧ f = g) (fun e => hn (by rw [e.2.2])))
      clear hl hh hn
      go_enter Try.func30, Try.ntmps30
      go_wp2_with fail
      go_quiet (fail)
      go_wp2_with fail
      go_ret
      exact ⟨ret_bool HN.out.symm, _, rfl⟩
    have t3 : ((f.len : Int) != (g.len : Int)) = false := by simp [hn]
    have t4 : (f.len != g.len) = false := by simp [hn]
    have HHL := Lib.hid (And.intro hh hl)
    have HLN := Lib.hid hn
    clear hl hh hn
    go_enter Try.func30, Try.ntmps30
    go_wp2_with fail
    go_quiet (fail)
    go_wp2_with fail
    go_loopw [5] (fun i wr => ∃ (k : Nat), k ≤ f.len ∧ i = .int .i64 k ∧ Quiet w wr ∧ ∀ j, j < k → f.hAt j = g.hAt j ∧ f.lAt j = g.lAt j ∧ f.kAt j = g.kAt j)
      (fun i _ => f.len - (intOf i).toNat)
    case atStart => exact ⟨0, Nat.zero_le _, rfl, ⟨_, rfl⟩, fun j hj => absurd hj (Nat.not_lt_zero _)⟩
    case round =>
      obtain ⟨k, hk, rfl, hq, hall⟩ := hrel
      have HQ := Lib.hid hq
      have HALL := Lib.hid hall
      have d2 := cell_quiet hq p2
      have e2 := cell_quiet hq q2
      clear hq hall
      by_cases hlt : k < f.len
      · have hlt2 : k < g.len := by have := HLN.out; omega
        rcases HK1.out with h | ⟨b1, o1, rfl, hB1, hF1⟩
        · rw [h] at hlt; exact absurd hlt (Nat.not_lt_zero _)
        rcases HK2.out with h | ⟨b2, o2, rfl, hB2, hF2⟩
        · rw [h] at hlt2; exact absurd hlt2 (Nat.not_lt_zero _)
        obtain ⟨x0, x1, ai, ci, x2, x3⟩ := hF1.get hlt
        obtain ⟨y0, y1, aj, cj, y2, y3⟩ := hF2.get hlt2
        have X0 := Lib.hid (cell_quiet HQ.out x0)
        have X1 := Lib.hid (cell_quiet HQ.out x1)
        have X2 := Lib.hid (cell_quiet HQ.out x2)
        have X3 := Lib.hid (x3.quiet HQ.out)
        have Y0 := Lib.hid (cell_quiet HQ.out y0)
        have Y1 := Lib.hid (cell_quiet HQ.out y1)
        have Y2 := Lib.hid (cell_quiet HQ.out y2)
        have Y3 := Lib.hid (y3.quiet HQ.out)
        have hs1 := f.k_size hlt
        have hs2 := g.k_size hlt2
        clear x0 x1 x2 x3 y0 y1 y2 y3 hF1 hF2
        have hi1 : (k : Int) < (f.len : Int) := by omega
        have hi2 : (k : Int) < (g.len : Int) := by omega
        by_cases he : f.hAt k = g.hAt k ∧ f.lAt k = g.lAt k ∧ f.kAt k = g.kAt k
        · have HT := Lib.hid (tell_true he)
          have HE := Lib.hid he
          clear he
          go_wp2_with fail
          go_quiet ((go_at_call 30; refine Calls.quiet_of (v := .bool true) ?_; rw [← HT.out]; exact HIH.out (f.kAt k) (g.kAt k) (by omega) (by omega) (by omega) B1 B2 b1 (o1 + k * 3) b2 (o2 + k * 3) _ _ _ _ ai aj ci cj _ (cell_quiet ⟨_, rfl⟩ X0.out) (cell_quiet ⟨_, rfl⟩ X1.out) (cell_quiet ⟨_, rfl⟩ X2.out) (cell_quiet ⟨_, rfl⟩ Y0.out) (cell_quiet ⟨_, rfl⟩ Y1.out) (cell_quiet ⟨_, rfl⟩ Y2.out) (X3.out.quiet ⟨_, rfl⟩) (Y3.out.quiet ⟨_, rfl⟩)))
          go_wp2_with fail
          go_roundw
          case rel => exact ⟨k + 1, by omega, by go_num, HQ.out.trans ⟨_, rfl⟩, fun j hj => by
            by_cases e : j = k
            · subst e; exact HE.out
            · exact HALL.out j (by omega)⟩
          case measure => simp [intOf]; omega
        · have HT := Lib.hid (tell_false he)
          have HN := Lib.hid (tell_false (p := h1 = h2 ∧ l1 = l2 ∧ f = g) (fun e => he (by rw [e.2.2]; exact ⟨rfl, rfl, rfl⟩)))
          clear he
          go_wp2_with fail
          go_quiet ((go_at_call 30; refine Calls.quiet_of (v := .bool false) ?_; rw [← HT.out]; exact HIH.out (f.kAt k) (g.kAt k) (by omega) (by omega) (by omega) B1 B2 b1 (o1 + k * 3) b2 (o2 + k * 3) _ _ _ _ ai aj ci cj _ (cell_quiet ⟨_, rfl⟩ X0.out) (cell_quiet ⟨_, rfl⟩ X1.out) (cell_quiet ⟨_, rfl⟩ X2.out) (cell_quiet ⟨_, rfl⟩ Y0.out) (cell_quiet ⟨_, rfl⟩ Y1.out) (cell_quiet ⟨_, rfl⟩ Y2.out) (X3.out.quiet ⟨_, rfl⟩) (Y3.out.quiet ⟨_, rfl⟩)))
          go_wp2_with fail
          go_ret
          exact ⟨ret_bool HN.out.symm, HQ.out.trans ⟨_, rfl⟩⟩
      · have HY := Lib.hid (tell_true (p := h1 = h2 ∧ l1 = l2 ∧ f = g) ⟨HHL.out.1, HHL.out.2, Fo.ext' HLN.out (fun i hi => HALL.out i (by omega))⟩)
        go_wp2_with fail
        go_ret
        exact ⟨ret_bool HY.out.symm, HQ.out⟩

set_option maxRecDepth 100000 in
theorem specSg_any (h1 l1 h2 l2 : Int) (f g : Fo) (hf : f.size ≤ 1048576) (hg : g.size ≤ 1048576) (B1 B2 : Nat) (a1 a2 : Option Addr) (c1 c2 : Nat) (w : World) (hk1 : Kids w B1 a1 f) (hk2 : Kids w B2 a2 g) :
    Calls Try.prog 13 #[.agg #[.int .i64 h1, .int .i64 l1, .slice a1 f.len c1], .agg #[.int .i64 h2, .int .i64 l2, .slice a2 g.len c2]] w fun e w' => e = .returned (.bool (tell (h1 = h2 ∧ l1 = l2 ∧ f = g))) ∧ Below w.heap.size w w' := by
  have HK1 := Lib.hid hk1
  have HK2 := Lib.hid hk2
  clear hk1 hk2
  go_enter Try.func13, Try.ntmps13
  go_wp2_with fail
  have hb := ((Below.refl w.heap.size w).alloc (Nat.le_refl _) (.cells #[.int .i64 h1, .int .i64 l1, .slice a1 f.len c1] 29)).alloc (by simp) (.cells #[.int .i64 h2, .int .i64 l2, .slice a2 g.len c2] 29)
  have hx : Boxes ((w.alloc (.cells #[.int .i64 h1, .int .i64 l1, .slice a1 f.len c1] 29)).alloc (.cells #[.int .i64 h2, .int .i64 l2, .slice a2 g.len c2] 29)) w.heap.size 29 #[.int .i64 h1, .int .i64 l1, .slice a1 f.len c1] := Boxes.step (World.alloc_heap_new w _) ((Below.refl _ _).alloc (Nat.le_refl _) (.cells #[.int .i64 h2, .int .i64 l2, .slice a2 g.len c2] 29))
  have hy : Boxes ((w.alloc (.cells #[.int .i64 h1, .int .i64 l1, .slice a1 f.len c1] 29)).alloc (.cells #[.int .i64 h2, .int .i64 l2, .slice a2 g.len c2] 29)) (w.heap.size + 1) 29 #[.int .i64 h2, .int .i64 l2, .slice a2 g.len c2] := by
    have h : Boxes ((w.alloc (.cells #[.int .i64 h1, .int .i64 l1, .slice a1 f.len c1] 29)).alloc (.cells #[.int .i64 h2, .int .i64 l2, .slice a2 g.len c2] 29)) (w.alloc (.cells #[.int .i64 h1, .int .i64 l1, .slice a1 f.len c1] 29)).heap.size 29 #[.int .i64 h2, .int .i64 l2, .slice a2 g.len c2] := World.alloc_heap_new _ _
    simp only [World.size_alloc] at h
    exact h
  refine (l02Same_any 1048577 f g (by omega) (Nat.le_refl _) hg B1 B2 w.heap.size 0 (w.heap.size + 1) 0 h1 l1 h2 l2 a1 a2 c1 c2 _ hx.g0 hx.g1 hx.g2 hy.g0 hy.g1 hy.g2 (HK1.out.below hb (Nat.le_refl _)) (HK2.out.below hb (Nat.le_refl _))).mono ?_
  generalize (w.alloc (.cells #[.int .i64 h1, .int .i64 l1, .slice a1 f.len c1] 29)).alloc (.cells #[.int .i64 h2, .int .i64 l2, .slice a2 g.len c2] 29) = w2 at *
  rintro e w3 ⟨rfl, hq⟩
  have HB := Lib.hid (hb.trans ((quiet_below hq).mono hb.size))
  clear hb hx hy hq
  go_wp2_with fail
  go_ret
  exact ⟨rfl, HB.out⟩

/-- What SameGate gives at all gates of less than m nodes. -/
def SameUpTo (m : Nat) : Prop := ∀ (f g : Fo), f.size < m → ∀ (B1 B2 : Nat) (h1 l1 h2 l2 : Int) (a1 a2 : Option Addr) (c1 c2 : Nat) (w : World), f.size ≤ 1048576 → g.size ≤ 1048576 → Kids w B1 a1 f → Kids w B2 a2 g →
    Calls Try.prog 14 #[.agg #[.int .i64 h1, .int .i64 l1, .slice a1 f.len c1], .agg #[.int .i64 h2, .int .i64 l2, .slice a2 g.len c2]] w fun e w' => e = .returned (.bool (tell (h1 = h2 ∧ l1 = l2 ∧ f = g))) ∧ Below w.heap.size w w'

set_option maxRecDepth 100000 in
set_option maxHeartbeats 2000000 in
theorem gatesEqual_any (f g : Fo) (hI : SameUpTo f.size) (B1 B2 : Nat) (a1 a2 : Option Addr) (c1 c2 : Nat) (w : World) (hf : f.size ≤ 1048576) (hg : g.size ≤ 1048576) (hk1 : Kids w B1 a1 f) (hk2 : Kids w B2 a2 g) :
    Calls Try.prog 31 #[.slice a1 f.len c1, .slice a2 g.len c2, .func (.func 14) #[] #[]] w fun e w' => e = .returned (.bool (tell (f = g))) ∧ Below w.heap.size w w' := by
  have hlf := f.len_le
  have hlg := g.len_le
  have HI := Lib.hid hI
  have HK1 := Lib.hid hk1
  have HK2 := Lib.hid hk2
  clear hI hk1 hk2
  by_cases hn : f.len = g.len
  case neg =>
    have t3 : ((f.len : Int) != (g.len : Int)) = true := by simp; omega
    have t4 : (f.len != g.len) = true := by simp; omega
    have HN := Lib.hid (tell_false (p := f = g) (fun e => hn (by rw [e])))
    clear hn
    go_enter Try.func31, Try.ntmps31
    go_wp2_with fail
    go_ret
    exact ⟨ret_bool HN.out.symm, Below.refl _ _⟩
  have t3 : ((f.len : Int) != (g.len : Int)) = false := by simp [hn]
  have t4 : (f.len != g.len) = false := by simp [hn]
  have HLN := Lib.hid hn
  clear hn
  go_enter Try.func31, Try.ntmps31
  go_wp2_with fail
  go_loopw [7, 8, 9, 17] (fun _ _ _ i wr => ∃ (k : Nat), k ≤ f.len ∧ i = .int .i64 k ∧ Below w.heap.size w wr ∧ ∀ j, j < k → f.hAt j = g.hAt j ∧ f.lAt j = g.lAt j ∧ f.kAt j = g.kAt j)
    (fun _ _ _ i _ => f.len - (intOf i).toNat)
  case atStart => exact ⟨0, Nat.zero_le _, rfl, Below.refl _ _, fun j hj => absurd hj (Nat.not_lt_zero _)⟩
  case round =>
    obtain ⟨k, hk, rfl, hb, hall⟩ := hrel
    have HB := Lib.hid hb
    have HALL := Lib.hid hall
    clear hb hall
    by_cases hlt : k < f.len
    · have hlt2 : k < g.len := by have := HLN.out; omega
      rcases HK1.out with h | ⟨b1, o1, rfl, hB1, hF1⟩
      · rw [h] at hlt; exact absurd hlt (Nat.not_lt_zero _)
      rcases HK2.out with h | ⟨b2, o2, rfl, hB2, hF2⟩
      · rw [h] at hlt2; exact absurd hlt2 (Nat.not_lt_zero _)
      obtain ⟨x0, x1, ai, ci, x2, x3⟩ := hF1.get hlt
      obtain ⟨y0, y1, aj, cj, y2, y3⟩ := hF2.get hlt2
      have u0 := cell_step HB.out x0
      have u1 := cell_step HB.out x1
      have u2 := cell_step HB.out x2
      have v0 := cell_step HB.out y0
      have v1 := cell_step HB.out y1
      have v2 := cell_step HB.out y2
      have X3 := Lib.hid (x3.step HB.out)
      have Y3 := Lib.hid (y3.step HB.out)
      have hbl := World.block_lt_of_cell? _ _ v0
      have hbm := World.block_lt_of_cell? _ _ v1
      have hs1 := f.k_size hlt
      have hs2 := g.k_size hlt2
      clear x0 x1 x2 x3 y0 y1 y2 y3 hF1 hF2
      have hi1 : (k : Int) < (f.len : Int) := by omega
      have hi2 : (k : Int) < (g.len : Int) := by omega
      have HC := Lib.hid (show (f.hAt k = g.hAt k ∧ f.lAt k = g.lAt k ∧ f.kAt k = g.kAt k) ∨ ¬ (f.hAt k = g.hAt k ∧ f.lAt k = g.lAt k ∧ f.kAt k = g.kAt k) from Classical.em _)
      go_wp2_with fail
      have hb3 := ((Below.refl wr.heap.size wr).alloc (Nat.le_refl _) (.cells #[.int .i64 (f.hAt k), .int .i64 (f.lAt k), .slice ai (f.kAt k).len ci] 29)).alloc (by simp) (.cells #[.int .i64 (g.hAt k), .int .i64 (g.lAt k), .slice aj (g.kAt k).len cj] 29)
      refine (HI.out (f.kAt k) (g.kAt k) hs1 B1 B2 (f.hAt k) (f.lAt k) (g.hAt k) (g.lAt k) ai aj ci cj _ (by omega) (by omega) (X3.out.below hb3 (Nat.le_refl _)) (Y3.out.below hb3 (Nat.le_refl _))).mono ?_
      generalize (wr.alloc (.cells #[.int .i64 (f.hAt k), .int .i64 (f.lAt k), .slice ai (f.kAt k).len ci] 29)).alloc (.cells #[.int .i64 (g.hAt k), .int .i64 (g.lAt k), .slice aj (g.kAt k).len cj] 29) = w3 at *
      rintro e w4 ⟨rfl, hb4⟩
      have HB4 := Lib.hid (HB.out.trans ((hb3.trans (hb4.mono hb3.size)).mono HB.out.size))
      clear hb3 hb4 u0 u1 u2 v0 v1 v2 hbl hbm
      rcases HC.out with he | he
      · rw [tell_true he]
        have HE := Lib.hid he
        clear he
        go_wp2_with fail
        go_roundw
        case rel => exact ⟨k + 1, by omega, by go_num, HB4.out, fun j hj => by
          by_cases e : j = k
          · subst e; exact HE.out
          · exact HALL.out j (by omega)⟩
        case measure => simp [intOf]; omega
      · rw [tell_false he]
        have HN := Lib.hid (tell_false (p := f = g) (fun e => he (by rw [e]; exact ⟨rfl, rfl, rfl⟩)))
        clear he
        go_wp2_with fail
        go_ret
        exact ⟨ret_bool HN.out.symm, HB4.out⟩
    · have HY := Lib.hid (tell_true (p := f = g) (Fo.ext' HLN.out (fun i hi => HALL.out i (by omega))))
      go_wp2_with fail
      go_ret
      exact ⟨ret_bool HY.out.symm, HB.out⟩

set_option maxRecDepth 100000 in
set_option maxHeartbeats 2000000 in
theorem implSg_any : ∀ m, SameUpTo m := by
  intro m
  induction m with
  | zero => exact fun f _ hf => absurd hf (Nat.not_lt_zero _)
  | succ m ih =>
    intro f g hf B1 B2 h1 l1 h2 l2 a1 a2 c1 c2 w hf2 hg2 hk1 hk2
    have HIH := Lib.hid (show SameUpTo f.size from fun f' g' hf' => ih f' g' (by omega))
    have HK1 := Lib.hid hk1
    have HK2 := Lib.hid hk2
    clear ih hk1 hk2
    by_cases hh : h1 = h2
    case neg =>
      have t1 : (h1 == h2) = false := by simp [hh]
      have HN := Lib.hid (tell_false (p := h1 = h2 ∧ l1 = l2 ∧ f = g) (fun e => hh e.1))
      clear hh
      go_enter Try.func14, Try.ntmps14
      go_wp2_with fail
      go_ret
      exact ⟨ret_bool HN.out.symm, ((Below.refl w.heap.size w).alloc (Nat.le_refl _) _).alloc (by simp) _⟩
    have t1 : (h1 == h2) = true := by simp [hh]
    by_cases hl : l1 = l2
    case neg =>
      have t2 : (l1 == l2) = false := by simp [hl]
      have HN := Lib.hid (tell_false (p := h1 = h2 ∧ l1 = l2 ∧ f = g) (fun e => hl e.2.1))
      clear hl hh
      go_enter Try.func14, Try.ntmps14
      go_wp2_with fail
      go_ret
      exact ⟨ret_bool HN.out.symm, ((Below.refl w.heap.size w).alloc (Nat.le_refl _) _).alloc (by simp) _⟩
    have t2 : (l1 == l2) = true := by simp [hl]
    have HT := Lib.hid (tell_congr (p := f = g) (q := h1 = h2 ∧ l1 = l2 ∧ f = g) ⟨fun e => ⟨hh, hl, e⟩, fun e => e.2.2⟩)
    clear hh hl
    go_enter Try.func14, Try.ntmps14
    go_wp2_with fail
    have hb := ((Below.refl w.heap.size w).alloc (Nat.le_refl _) (.cells #[.int .i64 h1, .int .i64 l1, .slice a1 f.len c1] 29)).alloc (by simp) (.cells #[.int .i64 h2, .int .i64 l2, .slice a2 g.len c2] 29)
    refine (gatesEqual_any f g HIH.out B1 B2 a1 a2 c1 c2 _ hf2 hg2 (HK1.out.below hb (Nat.le_refl _)) (HK2.out.below hb (Nat.le_refl _))).mono ?_
    generalize (w.alloc (.cells #[.int .i64 h1, .int .i64 l1, .slice a1 f.len c1] 29)).alloc (.cells #[.int .i64 h2, .int .i64 l2, .slice a2 g.len c2] 29) = w3 at *
    rintro e w4 ⟨rfl, hb4⟩
    have HB4 := Lib.hid (hb.trans (hb4.mono hb.size))
    clear hb hb4
    rw [HT.out]
    go_wp2_with fail
    go_ret
    exact ⟨rfl, HB4.out⟩
end Go.Proofs.Ytocnjojncmjfgaa

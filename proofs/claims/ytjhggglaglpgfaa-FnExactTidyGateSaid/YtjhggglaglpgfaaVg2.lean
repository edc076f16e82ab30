/- ValidGate, the model's form of a gate, and both ValidGates. -/
import Derived.Test.YtjhggglaglpgfaaVg
namespace Go.Proofs.Ytjhggglaglpgfaa
open Go.RowKit Go.Deep
set_option linter.unusedVariables false

/-- A gate is valid. -/
def GateOk (n h l : Int) (f : Fo) : Prop := 1 ≤ n ∧ n ≤ 7 ∧ f.size ≤ 59 ∧ f.dep ≤ 11 ∧ Fo.gform n h l f

set_option maxRecDepth 100000 in
set_option maxHeartbeats 2000000 in
theorem specForm_any : ∀ (m : Nat) (f : Fo), f.size < m → m ≤ 1048577 → ∀ (B pb po : Nat) (n h l : Int) (a : Option Addr) (c : Nat) (w : World), 1 ≤ n → n ≤ 7 →
    w.cell? ⟨pb, po, none⟩ = some (.int .i64 h) → w.cell? ⟨pb, po + 1, none⟩ = some (.int .i64 l) → w.cell? ⟨pb, po + 2, none⟩ = some (.slice a f.len c) → Kids w B a f →
    Calls Try.prog 50 #[.int .i64 n, .pointer (some ⟨pb, po, none⟩)] w fun e w' => e = .returned (.bool (tell (Fo.gform n h l f))) ∧ Quiet w w' := by
  intro m
  induction m with
  | zero => exact fun f hf => absurd hf (Nat.not_lt_zero _)
  | succ m ih =>
    intro f hf hm B pb po n h l a c w hn1 hn7 p0 p1 p2 hk
    by_cases hz : f.len = 0
    · have hzn := Fo.len_zero hz
      subst hzn
      exact specForm0_any n h l pb po a c w hn1 hn7 p0 p1 p2
    have hlen := f.len_le
    have HIH := Lib.hid ih
    have HK := Lib.hid hk
    have hpos : 0 < f.len := by omega
    have s0 : (f.len == 0) = false := by simp; omega
    have s1 : ((f.len : Int) == 0) = false := by simp; omega
    have HP := Lib.hid (And.intro p0 (And.intro p1 p2))
    have HG := Lib.hid (gform_some (n := n) (h := h) (l := l) hpos)
    clear ih hk hz
    go_enter Try.func50, Try.ntmps50
    go_wp2_with fail
    go_loopw [5] (fun i wr => ∃ (k : Nat), k ≤ f.len ∧ i = .int .i64 k ∧ Quiet w wr ∧ ∀ j, j < k → Fo.gform n (f.hAt j) (f.lAt j) (f.kAt j))
      (fun i _ => f.len - (intOf i).toNat)
    case atStart => exact ⟨0, Nat.zero_le _, rfl, Quiet.refl _, fun j hj => absurd hj (Nat.not_lt_zero _)⟩
    case round =>
      obtain ⟨k, hk, rfl, hq, hall⟩ := hrel
      have HQ := Lib.hid hq
      have HALL := Lib.hid hall
      clear hq hall p0 p1 p2
      have p0 := cell_step (quiet_below HQ.out) HP.out.1
      have p1 := cell_step (quiet_below HQ.out) HP.out.2.1
      have p2 := cell_step (quiet_below HQ.out) HP.out.2.2
      by_cases hlt : k < f.len
      · rcases HK.out with h | ⟨b, o, rfl, hB, hF⟩
        · rw [h] at hlt; exact absurd hlt (Nat.not_lt_zero _)
        obtain ⟨g1, g2, ai, ci, g3, g4⟩ := hF.get hlt
        have HGC := Lib.hid (And.intro (cell_step (quiet_below HQ.out) g1) (And.intro (cell_step (quiet_below HQ.out) g2) (And.intro (cell_step (quiet_below HQ.out) g3) (g4.step (quiet_below HQ.out)))))
        have hs := f.k_size hlt
        have HN := Lib.hid (show ¬ Fo.gform n (f.hAt k) (f.lAt k) (f.kAt k) → ¬ Fo.gform n h l f from fun q q2 => q (Fo.form_get (HG.out.1 q2).2.2.2 hlt))
        have HY := Lib.hid (show Fo.gform n (f.hAt k) (f.lAt k) (f.kAt k) → ∀ j, j < k + 1 → Fo.gform n (f.hAt j) (f.lAt j) (f.kAt j) from fun q j hj => by
          by_cases e : j = k
          · subst e; exact q
          · exact HALL.out j (by omega))
        clear g1 g2 g3 g4 hF
        have hi0 : (k : Int) < (f.len : Int) := by omega
        go_wp2_with fail
        refine (HIH.out (f.kAt k) (by omega) (by omega) B b (o + k * 3) n (f.hAt k) (f.lAt k) ai ci _ hn1 hn7 HGC.out.1 HGC.out.2.1 HGC.out.2.2.1 HGC.out.2.2.2).mono ?_
        rintro e w4 ⟨rfl, hq4⟩
        have HQ4 := Lib.hid (HQ.out.trans hq4)
        clear hq4 p0 p1 p2
        rcases Classical.em (Fo.gform n (f.hAt k) (f.lAt k) (f.kAt k)) with q | q
        · rw [tell_true q]
          have HQQ := Lib.hid (HY.out q)
          clear q
          go_wp2_with fail
          go_roundw
          case rel => exact ⟨k + 1, by omega, by go_num, HQ4.out, HQQ.out⟩
          case measure => simp [intOf]; omega
        · rw [tell_false q]
          have HQQ := Lib.hid (tell_false (HN.out q))
          clear q
          go_wp2_with fail
          go_ret
          exact ⟨ret_bool HQQ.out.symm, HQ4.out⟩
      · have HF := Lib.hid (show f.form n from Fo.form_of fun i hi => HALL.out i (by omega))
        have hi0 : ¬ (k : Int) < (f.len : Int) := by omega
        by_cases h1 : h = -1
        case neg =>
          have t1 : (h == -1) = false := by simp [h1]
          have HT := Lib.hid (tell_false (p := Fo.gform n h l f) (fun q => h1 (HG.out.1 q).1))
          clear h1
          go_wp2_with fail
          go_quiet (fail)
          go_wp2_with fail
          go_ret
          exact ⟨ret_bool HT.out.symm, HQ.out.trans ⟨_, rfl⟩⟩
        have t1 : (h == -1) = true := by simp [h1]
        by_cases h2 : 1 ≤ l ∧ l ≤ (f.len : Int)
        · have HT := Lib.hid (tell_true (HG.out.2 ⟨h1, h2.1, h2.2, HF.out⟩))
          have HI := Lib.hid (show (decide (1 ≤ l) && decide (l ≤ (f.len : Int))) = true by simp; omega)
          clear h1 h2
          go_wp2_with fail
          go_quiet ((go_at_call 38; exact Calls.quiet_of_same (swapped (gIn_val _ _ _ _ _ HI.out))))
          go_wp2_with fail
          go_ret
          exact ⟨ret_bool HT.out.symm, HQ.out.trans ⟨_, rfl⟩⟩
        · have HT := Lib.hid (tell_false (p := Fo.gform n h l f) (fun q => h2 ⟨(HG.out.1 q).2.1, (HG.out.1 q).2.2.1⟩))
          have HI := Lib.hid (show (decide (1 ≤ l) && decide (l ≤ (f.len : Int))) = false by simp; omega)
          clear h1 h2
          go_wp2_with fail
          go_quiet ((go_at_call 38; exact Calls.quiet_of_same (swapped (gIn_val _ _ _ _ _ HI.out))))
          go_wp2_with fail
          go_ret
          exact ⟨ret_bool HT.out.symm, HQ.out.trans ⟨_, rfl⟩⟩


set_option maxRecDepth 100000 in
set_option maxHeartbeats 2000000 in
theorem l02Ok_any (f : Fo) (hf : f.size ≤ 1048576) (B pb po : Nat) (n h l : Int) (a : Option Addr) (c : Nat) (w : World)
    (p0 : w.cell? ⟨pb, po, none⟩ = some (.int .i64 h)) (p1 : w.cell? ⟨pb, po + 1, none⟩ = some (.int .i64 l)) (p2 : w.cell? ⟨pb, po + 2, none⟩ = some (.slice a f.len c)) (hk : Kids w B a f) :
    Calls Try.prog 27 #[.int .i64 n, .pointer (some ⟨pb, po, none⟩)] w fun e w' => e = .returned (.bool (tell (GateOk n h l f))) ∧ Quiet w w' := by
  have HK := Lib.hid hk
  have HP := Lib.hid (And.intro p0 (And.intro p1 p2))
  clear hk p0 p1 p2
  by_cases hn : 1 ≤ n ∧ n ≤ 7
  case neg =>
    have HT := Lib.hid (tell_false (p := GateOk n h l f) (fun q => hn ⟨q.1, q.2.1⟩))
    have HI := Lib.hid (show (decide (1 ≤ n) && decide (n ≤ 7)) = false by simp; omega)
    clear hn
    go_enter Try.func27, Try.ntmps27
    go_wp2_with fail
    refine (gIn_val n 1 7 false _ HI.out).mono ?_
    rintro e w1 ⟨rfl, rfl⟩
    go_wp2_with fail
    go_ret
    exact ⟨ret_bool HT.out.symm, Quiet.refl _⟩
  have HI := Lib.hid (show (decide (1 ≤ n) && decide (n ≤ 7)) = true by simp; omega)
  have hn1 := hn.1
  have hn7 := hn.2
  clear hn
  by_cases hsz : f.size ≤ 59
  case neg =>
    have HT := Lib.hid (tell_false (p := GateOk n h l f) (fun q => hsz q.2.2.1))
    go_enter Try.func27, Try.ntmps27
    go_wp2_with fail
    refine (gIn_val n 1 7 true _ HI.out).mono ?_
    rintro e w1 ⟨rfl, rfl⟩
    go_wp2_with fail
    refine (l02Left_any 1048577 f (by omega) (Nat.le_refl _) B pb po a c 60 w HP.out.2.2 HK.out (by omega) (Int.le_refl _)).mono ?_
    rintro e w1 ⟨⟨v, rfl, hv⟩, rfl⟩
    obtain rfl : v = -1 := by omega
    clear hv
    go_wp2_with fail
    go_ret
    exact ⟨ret_bool HT.out.symm, Quiet.refl _⟩
  by_cases hdp : f.dep ≤ 11
  case neg =>
    have HT := Lib.hid (tell_false (p := GateOk n h l f) (fun q => hdp q.2.2.2.1))
    go_enter Try.func27, Try.ntmps27
    go_wp2_with fail
    refine (gIn_val n 1 7 true _ HI.out).mono ?_
    rintro e w1 ⟨rfl, rfl⟩
    go_wp2_with fail
    refine (l02Left_any 1048577 f (by omega) (Nat.le_refl _) B pb po a c 60 w HP.out.2.2 HK.out (by omega) (Int.le_refl _)).mono ?_
    rintro e w1 ⟨⟨v, rfl, hv⟩, rfl⟩
    have hv0 : 0 ≤ v := by omega
    clear hv
    go_wp2_with fail
    refine (l02Depth_any 1048577 f (by omega) (Nat.le_refl _) B pb po a c w HP.out.2.2 HK.out).mono ?_
    rintro e w1 ⟨rfl, rfl⟩
    have hd1 : ¬ ((f.dep : Int) + 1 ≤ 12) := by omega
    have hd2 : ¬ ((f.dep : Int) ≤ 11) := by omega
    go_wp2_with fail
    go_ret
    exact ⟨ret_bool HT.out.symm, Quiet.refl _⟩
  have HT := Lib.hid (tell_congr (p := Fo.gform n h l f) (q := GateOk n h l f) ⟨fun q => ⟨hn1, hn7, hsz, hdp, q⟩, fun q => q.2.2.2.2⟩)
  go_enter Try.func27, Try.ntmps27
  go_wp2_with fail
  refine (gIn_val n 1 7 true _ HI.out).mono ?_
  rintro e w1 ⟨rfl, rfl⟩
  go_wp2_with fail
  refine (l02Left_any 1048577 f (by omega) (Nat.le_refl _) B pb po a c 60 w HP.out.2.2 HK.out (by omega) (Int.le_refl _)).mono ?_
  rintro e w1 ⟨⟨v, rfl, hv⟩, rfl⟩
  have hv0 : 0 ≤ v := by omega
  clear hv
  go_wp2_with fail
  refine (l02Depth_any 1048577 f (by omega) (Nat.le_refl _) B pb po a c w HP.out.2.2 HK.out).mono ?_
  rintro e w1 ⟨rfl, rfl⟩
  have hd1 : (f.dep : Int) + 1 ≤ 12 := by omega
  have hd2 : (f.dep : Int) ≤ 11 := by omega
  go_wp2_with fail
  refine (specForm_any 1048577 f (by omega) (Nat.le_refl _) B pb po n h l a c w hn1 hn7 HP.out.1 HP.out.2.1 HP.out.2.2 HK.out).mono ?_
  rintro e w1 ⟨rfl, hq⟩
  have HQ := Lib.hid hq
  clear hq
  go_wp2_with fail
  go_ret
  exact ⟨ret_bool HT.out, HQ.out⟩

set_option maxRecDepth 100000 in
set_option maxHeartbeats 2000000 in
theorem implVg_any (f : Fo) (hf : f.size ≤ 1048576) (B : Nat) (n h l : Int) (a : Option Addr) (c : Nat) (w : World) (hk : Kids w B a f) :
    Calls Try.prog 51 #[.int .i64 n, .agg #[.int .i64 h, .int .i64 l, .slice a f.len c]] w fun e w' => e = .returned (.bool (tell (GateOk n h l f))) ∧ Below w.heap.size w w' := by
  have hb := (Below.refl w.heap.size w).alloc (Nat.le_refl _) (.cells #[.int .i64 h, .int .i64 l, .slice a f.len c] 28)
  have hx : Boxes (w.alloc (.cells #[.int .i64 h, .int .i64 l, .slice a f.len c] 28)) w.heap.size 28 #[.int .i64 h, .int .i64 l, .slice a f.len c] := World.alloc_heap_new _ _
  have HK := Lib.hid (hk.step hb)
  have HB := Lib.hid hb
  have HX := Lib.hid hx
  clear hk hb hx
  by_cases hn1 : 1 ≤ n
  case neg =>
    have HT := Lib.hid (tell_false (p := GateOk n h l f) (fun q => hn1 q.1))
    go_enter Try.func51, Try.ntmps51
    go_wp2_with fail
    go_ret
    exact ⟨ret_bool HT.out.symm, HB.out⟩
  by_cases hn7 : n ≤ 7
  case neg =>
    have HT := Lib.hid (tell_false (p := GateOk n h l f) (fun q => hn7 q.2.1))
    go_enter Try.func51, Try.ntmps51
    go_wp2_with fail
    go_ret
    exact ⟨ret_bool HT.out.symm, HB.out⟩
  by_cases hsz : f.size ≤ 59
  case neg =>
    have HT := Lib.hid (tell_false (p := GateOk n h l f) (fun q => hsz q.2.2.1))
    go_enter Try.func51, Try.ntmps51
    go_wp2_with fail
    refine (implGs_any 1048577 f (by omega) (Nat.le_refl _) B h l a c _ HK.out).mono ?_
    generalize w.alloc (.cells #[.int .i64 h, .int .i64 l, .slice a f.len c] 28) = w1 at *
    rintro e w2 ⟨rfl, hb2⟩
    have HB2 := Lib.hid (HB.out.trans (hb2.mono HB.out.size))
    have hd1 : ¬ (1 + (f.size : Int) ≤ 60) := by omega
    clear hb2
    go_wp2_with fail
    go_ret
    exact ⟨ret_bool HT.out.symm, HB2.out⟩
  by_cases hdp : f.dep ≤ 11
  case neg =>
    have HT := Lib.hid (tell_false (p := GateOk n h l f) (fun q => hdp q.2.2.2.1))
    go_enter Try.func51, Try.ntmps51
    go_wp2_with fail
    refine (implGs_any 1048577 f (by omega) (Nat.le_refl _) B h l a c _ HK.out).mono ?_
    generalize w.alloc (.cells #[.int .i64 h, .int .i64 l, .slice a f.len c] 28) = w1 at *
    rintro e w2 ⟨rfl, hb2⟩
    have HB2 := Lib.hid (HB.out.trans (hb2.mono HB.out.size))
    have HK2 := Lib.hid (HK.out.step hb2)
    have hx2 := HX.out.step hb2
    have x0 := hx2.g0
    have x1 := hx2.g1
    have x2 := hx2.g2
    have hd1 : (1 + (f.size : Int) ≤ 60) := by omega
    clear hb2 hx2
    go_wp2_with fail
    refine (implDep_any 1048577 f (by omega) (Nat.le_refl _) B h l a c _ HK2.out).mono ?_
    rintro e w3 ⟨rfl, hb3⟩
    have HB3 := Lib.hid (HB2.out.trans (hb3.mono HB2.out.size))
    have hd2 : ¬ ((f.dep : Int) + 1 ≤ 12) := by omega
    have hd3 : ¬ ((f.dep : Int) ≤ 11) := by omega
    clear hb3 x0 x1 x2
    go_wp2_with fail
    go_ret
    exact ⟨ret_bool HT.out.symm, HB3.out⟩
  have HT := Lib.hid (tell_congr (p := Fo.gform n h l f) (q := GateOk n h l f) ⟨fun q => ⟨hn1, hn7, hsz, hdp, q⟩, fun q => q.2.2.2.2⟩)
  go_enter Try.func51, Try.ntmps51
  go_wp2_with fail
  refine (implGs_any 1048577 f (by omega) (Nat.le_refl _) B h l a c _ HK.out).mono ?_
  generalize w.alloc (.cells #[.int .i64 h, .int .i64 l, .slice a f.len c] 28) = w1 at *
  rintro e w2 ⟨rfl, hb2⟩
  have HB2 := Lib.hid (HB.out.trans (hb2.mono HB.out.size))
  have HK2 := Lib.hid (HK.out.step hb2)
  have HX2 := Lib.hid (HX.out.step hb2)
  have x0 := HX2.out.g0
  have x1 := HX2.out.g1
  have x2 := HX2.out.g2
  have hd1 : (1 + (f.size : Int) ≤ 60) := by omega
  clear hb2
  go_wp2_with fail
  refine (implDep_any 1048577 f (by omega) (Nat.le_refl _) B h l a c _ HK2.out).mono ?_
  rintro e w3 ⟨rfl, hb3⟩
  have HB3 := Lib.hid (HB2.out.trans (hb3.mono HB2.out.size))
  have HK3 := Lib.hid (HK2.out.step hb3)
  have hx3 := HX2.out.step hb3
  clear x0 x1 x2
  have x0 := hx3.g0
  have x1 := hx3.g1
  have x2 := hx3.g2
  have hd2 : ((f.dep : Int) + 1 ≤ 12) := by omega
  have hd3 : ((f.dep : Int) ≤ 11) := by omega
  clear hb3 hx3
  go_wp2_with fail
  refine (implForm_any 1048577 f (by omega) (Nat.le_refl _) B n h l a c _ HK3.out).mono ?_
  rintro e w4 ⟨rfl, hb4⟩
  have HB4 := Lib.hid (HB3.out.trans (hb4.mono HB3.out.size))
  clear hb4 x0 x1 x2
  go_wp2_with fail
  go_ret
  exact ⟨ret_bool HT.out, HB4.out⟩
end Go.Proofs.Ytjhggglaglpgfaa

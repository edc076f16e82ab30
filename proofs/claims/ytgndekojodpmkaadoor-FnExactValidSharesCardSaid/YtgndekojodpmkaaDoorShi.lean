/- ValidShares, both. -/
import Derived.Test.YtgndekojodpmkaaDoorDs
namespace Go.Proofs.YtgndekojodpmkaaDoor
open Go.RowKit Go.Deep
set_option linter.unusedVariables false

def ats (zs : List Int) (n : Nat) : List Int := (List.range n).map fun i => nth zs (i * 2)
def vls (zs : List Int) (n : Nat) : List Int := (List.range n).map fun i => nth zs (i * 2 + 1)
theorem ats_len (zs : List Int) (n : Nat) : (ats zs n).length = n := by simp [ats]
theorem vls_len (zs : List Int) (n : Nat) : (vls zs n).length = n := by simp [vls]
theorem ats_nth (zs : List Int) {n i : Nat} (h : i < n) : nth (ats zs n) i = nth zs (i * 2) := by rw [nth_lt (by rw [ats_len]; exact h)]; simp [ats]
theorem vls_nth (zs : List Int) {n i : Nat} (h : i < n) : nth (vls zs n) i = nth zs (i * 2 + 1) := by rw [nth_lt (by rw [vls_len]; exact h)]; simp [vls]
theorem ats_succ (zs : List Int) (n : Nat) : ats zs (n + 1) = ats zs n ++ [nth zs (n * 2)] := by simp [ats, List.range_succ]
theorem vls_succ (zs : List Int) (n : Nat) : vls zs (n + 1) = vls zs n ++ [nth zs (n * 2 + 1)] := by simp [vls, List.range_succ]
def ShsOk (p : Int) (zs : List Int) (n : Nat) : Prop := Prm p ∧ PtsOk p (ats zs n) ∧ Elems p (vls zs n)
theorem pts_take {p : Int} {zs : List Int} {n k : Nat} (h : PtsOk p (ats zs n)) (hk : k ≤ n) : PtsOk p (ats zs k) := by
  refine ⟨by have := h.1; rw [ats_len] at *; omega, fun i hi => ?_⟩
  rw [ats_len] at hi
  have h1 := h.2 i (by rw [ats_len]; omega)
  unfold GrpAt at h1 ⊢
  rw [ats_nth zs (show i < n by omega)] at h1
  rw [ats_nth zs hi]
  refine ⟨h1.1, h1.2.1, fun h0 => ?_⟩
  have h2 := h1.2.2 h0
  rw [ats_nth zs (show i - 1 < n by omega)] at h2
  rw [ats_nth zs (show i - 1 < k by omega)]
  exact h2
theorem pts_nil (p : Int) (zs : List Int) : PtsOk p (ats zs 0) := ⟨by simp [ats], fun i hi => by simp [ats] at hi⟩
/-- What the program's checkShares answers: nil, or something. -/
def ShP (p : Int) (zs : List Int) (n : Nat) (e : Ending) : Prop := (ShsOk p zs n ∧ e = .returned .nilIface) ∨ (¬ ShsOk p zs n ∧ ∃ t v, e = .returned (.iface t v))
structure GlobIR (w : World) (ai ar : Addr) : Prop where
  i : Sent w 0 ai
  r : Sent w 2 ar
theorem GlobIR.step {w w' : World} {ai ar : Addr} (h : GlobIR w ai ar) (hb : Below w.heap.size w w') : GlobIR w' ai ar := ⟨h.i.step hb, h.r.step hb⟩

set_option maxRecDepth 100000 in
set_option maxHeartbeats 2000000 in
theorem checkShares_any (p : Int) (a : Option Addr) (zs : List Int) (n c : Nat) (ai ar : Addr) (w : World) (hg : GlobIR w ai ar) (h : Ints w a zs) (hz : zs.length = n * 2) (hl : n ≤ 1048576) :
    Calls Tryd.prog 59 #[.int .i64 p, .slice a n c] w fun e w' => ShP p zs n e ∧ Below w.heap.size w w' := by
  have ci := hg.i.cell
  have HG := Lib.hid hg
  have HI := Lib.hid h
  have HZ := Lib.hid hz
  clear hg h hz
  obtain ⟨i0, hi, hz0, hz1, hz2⟩ := info_parts Tryd.infoInt64
  by_cases hp : Prm p
  case neg =>
    have HT := Lib.hid (tell_false hp)
    have HN := Lib.hid (show ¬ ShsOk p zs n from fun q => hp q.1)
    clear hp
    go_enter Tryd.func59, Tryd.ntmps59
    go_wp2_with fail
    refine (implPrime_any p _).mono ?_
    rintro e w' ⟨rfl, rfl⟩
    rw [HT.out]
    go_wp2
    go_ret
    exact ⟨.inr ⟨HN.out, _, _, rfl⟩, Below.refl _ _⟩
  have HT := Lib.hid (tell_true hp)
  have HP := Lib.hid hp
  clear hp ci
  go_enter Tryd.func59, Tryd.ntmps59
  go_wp2_with fail
  refine (implPrime_any p _).mono ?_
  rintro e w' ⟨rfl, rfl⟩
  rw [HT.out]
  go_wp2_with fail
  go_loopw [4, 5, 6, 7, 8, 9, 16] (fun _ q _ _ _ _ i wr => ∃ k : Nat, k ≤ n ∧ i = .int .i64 k ∧ OwnI wr w.heap.size q (ats zs k) ∧ Below w.heap.size w wr ∧ PtsOk p (ats zs k) ∧ ∀ j, j < k → Elem p (nth zs (j * 2 + 1)))
    (fun _ _ _ _ _ _ i _ => n - (intOf i).toNat)
  case atStart => exact ⟨0, Nat.zero_le _, rfl, OwnI.nil _ _, Below.refl _ _, pts_nil p zs, fun j hj => absurd hj (Nat.not_lt_zero _)⟩
  case round =>
    obtain ⟨k, hk, rfl, ho, hb, hpk, hek⟩ := hrel
    have HO := Lib.hid ho
    have HB := Lib.hid hb
    have HPK := Lib.hid hpk
    have HEK := Lib.hid hek
    have hsz := hb.size
    clear ho hb hpk hek
    by_cases hlt : k < n
    · have hk1 : k * 2 < zs.length := by have := HZ.out; omega
      have hk2 : k * 2 + 1 < zs.length := by have := HZ.out; omega
      rcases HI.out.below HB.out (Nat.le_refl _) with h | ⟨b, o, rfl, hc⟩
      · rw [h] at hk1; exact absurd hk1 (Nat.not_lt_zero _)
      have g1 := hc (k * 2) hk1
      have g2 := hc (k * 2 + 1) hk2
      rw [← Nat.add_assoc] at g2
      have HA := Lib.hid (ats_succ zs k)
      have HVS := Lib.hid (show ∀ y, nth zs (k * 2 + 1) = y → Elem p y → ∀ j, j < k + 1 → Elem p (nth zs (j * 2 + 1)) from fun y hy he j hj => by
        by_cases e : j = k
        · subst e; rw [hy]; exact he
        · exact HEK.out j (by omega))
      have HVN := Lib.hid (show ∀ y, nth zs (k * 2 + 1) = y → ¬ Elem p y → ¬ ShsOk p zs n from fun y hy he q => he (by
        have := q.2.2 k (by rw [vls_len]; exact hlt)
        rw [vls_nth zs hlt, hy] at this
        exact this))
      have HPN := Lib.hid (show ¬ PtsOk p (ats zs (k + 1)) → ¬ ShsOk p zs n from fun he q => he (pts_take q.2.1 (by omega)))
      obtain ⟨x, hx⟩ : ∃ x, nth zs (k * 2) = x := ⟨_, rfl⟩
      obtain ⟨y, hy⟩ : ∃ y, nth zs (k * 2 + 1) = y := ⟨_, rfl⟩
      rw [hx] at g1 HA
      rw [hy] at g2
      have HY := Lib.hid hy
      have hi0 : (k : Int) < (n : Int) := by omega
      clear hc hx hy
      go_wp2_with (at_builtin; refine wpList_append_own _ rfl _ _ 22 rfl w.heap.size 2 i0 (.int .i64 0) 1 8 Tryd.underlying22 hi hz0 hz1 hz2 rfl (by decide) _ _ _ rfl (World.ownsRow.alloc (World.ownsRow.alloc HO.out _) _) ⟨wr.heap.size + 1, 0, none⟩ 1 1 [.int .i64 x] rfl rfl (by have := cell_one_new (wr.alloc (.cells #[.int .i64 x, .int .i64 y] 91)) (.int .i64 x) 2; simp only [World.size_alloc] at this; exact this) (by simp [Value.oneCell']) (by rw [ats_len]; unfold maxLen; omega) (by rw [ats_len]; omega) (by simp; omega) ?_; intro v' w6 hown6 hgrow6 _)
      have HO6 := Lib.hid (show OwnI w6 w.heap.size v' (ats zs (k + 1)) by
        rw [HA.out]; unfold OwnI; rw [vals_snoc, List.length_append]; exact hown6)
      have HB6 := Lib.hid (((HB.out.alloc hsz (.cells #[.int .i64 x, .int .i64 y] 91)).alloc (by simp; omega) (.cells #[.int .i64 x] 2)).grown hgrow6 (by simp; omega) (fun q hq => (row_lt HO.out hq).1))
      have hbx : Boxes ((wr.alloc (.cells #[.int .i64 x, .int .i64 y] 91)).alloc (.cells #[.int .i64 x] 2)) wr.heap.size 91 #[.int .i64 x, .int .i64 y] := Boxes.step (World.alloc_heap_new wr _) ((Below.refl _ _).alloc (Nat.le_refl _) _)
      have HX6 := Lib.hid (show Boxes w6 wr.heap.size 91 #[.int .i64 x, .int .i64 y] from (hgrow6.block wr.heap.size hbx.lt (fun e => by have := (row_lt HO.out e.symm).2; omega)).trans hbx)
      have hsz6 := HB6.out.size
      clear hown6 hgrow6 hbx
      have hal := ats_len zs (k + 1)
      obtain ⟨va, vc, hv'⟩ := rowForm HO6.out
      subst hv'
      have HIN := Lib.hid (Ints_of_own HO6.out)
      have hcp := checkPoints_any p va (ats zs (k + 1)) vc ai ar w6 HIN.out (by rw [hal]; omega) ((HG.out.step HB6.out).i) ((HG.out.step HB6.out).r)
      have HCP := Lib.hid hcp
      clear hcp hal
      by_cases hok : PtsOk p (ats zs (k + 1))
      case neg =>
        rw [ptE_out ai ar HP.out hok] at HCP
        simp only [errV] at HCP
        have HNO := Lib.hid (HPN.out hok)
        clear hok
        go_wp2_with fail
        refine HCP.out.mono ?_
        rintro e w7 ⟨rfl, hq⟩
        have HB7 := Lib.hid (HB6.out.trans ((quiet_below hq).mono HB6.out.size))
        clear hq
        go_wp2
        go_ret
        exact ⟨.inr ⟨HNO.out, _, _, rfl⟩, HB7.out⟩
      rw [ptE_yes ai ar HP.out hok] at HCP
      simp only [errV] at HCP
      have HOK := Lib.hid hok
      clear hok
      go_wp2_with fail
      refine HCP.out.mono ?_
      rintro e w7 ⟨rfl, hq⟩
      have HB7 := Lib.hid (HB6.out.trans ((quiet_below hq).mono HB6.out.size))
      have HX7 := Lib.hid (HX6.out.step (quiet_below hq))
      have HO7 := Lib.hid (HO6.out.step (quiet_below hq))
      have z1 := HX7.out.c1
      have zl := HX7.out.lt
      clear hq
      have hb8 := (Below.refl w7.heap.size w7).alloc (Nat.le_refl _) (.cells #[.int .i64 y] 2)
      have hcr := checkResidues_any p (some ⟨w7.heap.size, 0, none⟩) [y] 1 ai ar _ (ints_one w7 y) (by simp) ((HG.out.step (HB7.out.trans (hb8.mono HB7.out.size))).i) ((HG.out.step (HB7.out.trans (hb8.mono HB7.out.size))).r)
      have HCR := Lib.hid hcr
      have HO8 := Lib.hid (HO7.out.step hb8)
      have HB8 := Lib.hid (HB7.out.trans (hb8.mono HB7.out.size))
      clear hcr hb8
      by_cases hye : Elem p y
      case neg =>
        rw [resE_out ai ar HP.out (fun q => hye (elems_one.1 q))] at HCR
        simp only [errV] at HCR
        have HNO := Lib.hid (HVN.out y HY.out hye)
        clear hye
        go_wp2_with fail
        refine HCR.out.mono ?_
        rintro e w9 ⟨rfl, hq⟩
        have HB9 := Lib.hid (HB8.out.trans ((quiet_below hq).mono HB8.out.size))
        clear hq
        go_wp2
        go_ret
        exact ⟨.inr ⟨HNO.out, _, _, rfl⟩, HB9.out⟩
      rw [resE_yes ai ar HP.out (elems_one.2 hye)] at HCR
      simp only [errV] at HCR
      have HES := Lib.hid (HVS.out y HY.out hye)
      clear hye
      go_wp2_with fail
      refine HCR.out.mono ?_
      rintro e w9 ⟨rfl, hq⟩
      have HB9 := Lib.hid (HB8.out.trans ((quiet_below hq).mono HB8.out.size))
      have HO9 := Lib.hid (HO8.out.step (quiet_below hq))
      clear hq
      go_wp2
      go_roundw
      case rel => exact ⟨k + 1, by omega, by go_num, HO9.out, HB9.out, HOK.out, HES.out⟩
      case measure => simp [intOf]; omega
    · have HK := Lib.hid (show k = n by omega)
      have HOK := Lib.hid (show ShsOk p zs n from ⟨HP.out, by rw [← HK.out]; exact HPK.out, fun i hi => by
        rw [vls_len] at hi
        rw [vls_nth zs hi]
        exact HEK.out i (by have := HK.out; omega)⟩)
      go_wp2
      go_ret
      exact ⟨.inl ⟨HOK.out, rfl⟩, HB.out⟩

set_option maxRecDepth 100000 in
theorem implVsh_any (p : Int) (a : Option Addr) (zs : List Int) (n c : Nat) (ai ar : Addr) (w : World) (hg : GlobIR w ai ar) (h : Ints w a zs) (hz : zs.length = n * 2) (hl : n ≤ 1048576) :
    Calls Tryd.prog 21 #[.int .i64 p, .slice a n c] w fun e w' => e = .returned (.bool (tell (ShsOk p zs n))) ∧ Below w.heap.size w w' := by
  have HC := Lib.hid (checkShares_any p a zs n c ai ar w hg h hz hl)
  clear hg h
  go_enter Tryd.func21, Tryd.ntmps21
  go_wp2_with fail
  refine HC.out.mono ?_
  rintro e w2 ⟨⟨hok, rfl⟩ | ⟨hno, t, v, rfl⟩, hb⟩
  · have HT := Lib.hid (tell_true hok)
    clear hok
    go_wp2
    go_ret
    exact ⟨ret_bool HT.out.symm, hb⟩
  · have HT := Lib.hid (tell_false hno)
    clear hno
    go_wp2
    go_ret
    exact ⟨ret_bool HT.out.symm, hb⟩

theorem own_made2 (w : World) : OwnI (w.alloc (.cells #[] 2)) w.heap.size (.slice (some ⟨w.heap.size, 0, none⟩) 0 0) [] := World.ownsRow_made w #[] 0 (Nat.le_refl _) (by unfold maxLen; omega) rfl
set_option maxRecDepth 100000 in
set_option maxHeartbeats 400000 in
theorem l05Places_any (a : Option Addr) (zs : List Int) (n c : Nat) (w : World) (h : Ints w a zs) (hz : zs.length = n * 2) (hl : n ≤ 1048576) :
    Calls Tryd.prog 55 #[.slice a n c] w (GivesInts w (ats zs n)) := by
  have HI := Lib.hid h
  have HZ := Lib.hid hz
  obtain ⟨i0, hi, hz0, hz1, hz2⟩ := info_parts Tryd.infoInt64
  have HO0 := Lib.hid (own_made2 w)
  have HB0 := Lib.hid ((Below.refl w.heap.size w).alloc (Nat.le_refl _) (.cells #[] 2))
  clear h hz
  go_enter Tryd.func55, Tryd.ntmps55
  go_wp2_with fail
  generalize w.alloc (.cells #[] 2) = w4 at *
  go_loopw [3, 4] (fun q i wr => ∃ (j : Nat), j ≤ n ∧ i = .int .i64 j ∧ OwnI wr w.heap.size q (ats zs j) ∧ Below w.heap.size w wr)
    (fun _ i _ => n - (intOf i).toNat)
  case atStart => exact ⟨0, Nat.zero_le _, rfl, HO0.out, HB0.out⟩
  case round =>
    obtain ⟨j, hj, rfl, ho, hb⟩ := hrel
    have hsz := hb.size
    have HO := Lib.hid ho
    have HB := Lib.hid hb
    clear ho hb HO0 HB0
    by_cases hltj : j < n
    · have hk1 : j * 2 < zs.length := by have := HZ.out; omega
      rcases HI.out.below HB.out (Nat.le_refl _) with h | ⟨b, o, rfl, hc⟩
      · rw [h] at hk1; exact absurd hk1 (Nat.not_lt_zero _)
      have g1 := hc (j * 2) hk1
      have HA := Lib.hid (ats_succ zs j)
      have hj0 : (j : Int) < (n : Int) := by omega
      generalize nth zs (j * 2) = x at *
      clear hc
      go_wp2_with (at_builtin; refine wpList_append_own _ rfl _ _ 22 rfl w.heap.size 2 i0 (.int .i64 0) 1 8 Tryd.underlying22 hi hz0 hz1 hz2 rfl (by decide) _ _ _ rfl (World.ownsRow.alloc HO.out _) ⟨wr.heap.size, 0, none⟩ 1 1 [.int .i64 x] rfl rfl (cell_one_new _ _ _) (by simp [Value.oneCell']) (by rw [ats_len]; unfold maxLen; omega) (by rw [ats_len]; omega) (by simp; omega) ?_; intro v' w6 hown6 hgrow6 _)
      have H6 := Lib.hid (show OwnI w6 w.heap.size v' (ats zs (j + 1)) by
        rw [HA.out]; unfold OwnI; rw [vals_snoc, List.length_append]; exact hown6)
      have HB6 := Lib.hid ((HB.out.alloc hsz (.cells #[.int .i64 x] 2)).grown hgrow6 (by simp; omega) (fun q hq => (row_lt HO.out hq).1))
      clear hown6 hgrow6
      go_wp2
      go_roundw
      case rel => exact ⟨j + 1, by omega, by go_num, H6.out, HB6.out⟩
      case measure => simp [intOf]; omega
    · have HE := Lib.hid (show j = n by omega)
      go_wp2
      go_ret
      have := HO.out
      rw [HE.out] at this
      exact ⟨⟨_, rfl, this⟩, HB.out⟩
set_option maxRecDepth 100000 in
set_option maxHeartbeats 400000 in
theorem l05Values_any (a : Option Addr) (zs : List Int) (n c : Nat) (w : World) (h : Ints w a zs) (hz : zs.length = n * 2) (hl : n ≤ 1048576) :
    Calls Tryd.prog 57 #[.slice a n c] w (GivesInts w (vls zs n)) := by
  have HI := Lib.hid h
  have HZ := Lib.hid hz
  obtain ⟨i0, hi, hz0, hz1, hz2⟩ := info_parts Tryd.infoInt64
  have HO0 := Lib.hid (own_made2 w)
  have HB0 := Lib.hid ((Below.refl w.heap.size w).alloc (Nat.le_refl _) (.cells #[] 2))
  clear h hz
  go_enter Tryd.func57, Tryd.ntmps57
  go_wp2_with fail
  generalize w.alloc (.cells #[] 2) = w4 at *
  go_loopw [3, 4] (fun q i wr => ∃ (j : Nat), j ≤ n ∧ i = .int .i64 j ∧ OwnI wr w.heap.size q (vls zs j) ∧ Below w.heap.size w wr)
    (fun _ i _ => n - (intOf i).toNat)
  case atStart => exact ⟨0, Nat.zero_le _, rfl, HO0.out, HB0.out⟩
  case round =>
    obtain ⟨j, hj, rfl, ho, hb⟩ := hrel
    have hsz := hb.size
    have HO := Lib.hid ho
    have HB := Lib.hid hb
    clear ho hb HO0 HB0
    by_cases hltj : j < n
    · have hk1 : j * 2 + 1 < zs.length := by have := HZ.out; omega
      rcases HI.out.below HB.out (Nat.le_refl _) with h | ⟨b, o, rfl, hc⟩
      · rw [h] at hk1; exact absurd hk1 (Nat.not_lt_zero _)
      have g1 := hc (j * 2 + 1) hk1
      rw [← Nat.add_assoc] at g1
      have HA := Lib.hid (vls_succ zs j)
      have hj0 : (j : Int) < (n : Int) := by omega
      generalize nth zs (j * 2 + 1) = x at *
      clear hc
      go_wp2_with (at_builtin; refine wpList_append_own _ rfl _ _ 22 rfl w.heap.size 2 i0 (.int .i64 0) 1 8 Tryd.underlying22 hi hz0 hz1 hz2 rfl (by decide) _ _ _ rfl (World.ownsRow.alloc HO.out _) ⟨wr.heap.size, 0, none⟩ 1 1 [.int .i64 x] rfl rfl (cell_one_new _ _ _) (by simp [Value.oneCell']) (by rw [vls_len]; unfold maxLen; omega) (by rw [vls_len]; omega) (by simp; omega) ?_; intro v' w6 hown6 hgrow6 _)
      have H6 := Lib.hid (show OwnI w6 w.heap.size v' (vls zs (j + 1)) by
        rw [HA.out]; unfold OwnI; rw [vals_snoc, List.length_append]; exact hown6)
      have HB6 := Lib.hid ((HB.out.alloc hsz (.cells #[.int .i64 x] 2)).grown hgrow6 (by simp; omega) (fun q hq => (row_lt HO.out hq).1))
      clear hown6 hgrow6
      go_wp2
      go_roundw
      case rel => exact ⟨j + 1, by omega, by go_num, H6.out, HB6.out⟩
      case measure => simp [intOf]; omega
    · have HE := Lib.hid (show j = n by omega)
      go_wp2
      go_ret
      have := HO.out
      rw [HE.out] at this
      exact ⟨⟨_, rfl, this⟩, HB.out⟩
set_option maxRecDepth 100000 in
set_option maxHeartbeats 1000000 in
theorem specVsh_any (p : Int) (a : Option Addr) (zs : List Int) (n c : Nat) (w : World) (h : Ints w a zs) (hz : zs.length = n * 2) (hl : n ≤ 1048576) :
    Calls Tryd.prog 19 #[.int .i64 p, .slice a n c] w fun e w' => e = .returned (.bool (tell (ShsOk p zs n))) ∧ Below w.heap.size w w' := by
  have HI := Lib.hid h
  have HZ := Lib.hid hz
  clear h hz
  by_cases hp : Prm p
  case neg =>
    have HT := Lib.hid (tell_false hp)
    have HN := Lib.hid (tell_false (p := ShsOk p zs n) (fun q => hp q.1))
    clear hp
    go_enter Tryd.func19, Tryd.ntmps19
    go_wp2_with fail
    refine (l05Prime_any p _).mono ?_
    rintro e w' ⟨rfl, rfl⟩
    rw [HT.out]
    go_wp2
    go_ret
    exact ⟨ret_bool HN.out.symm, Below.refl _ _⟩
  have HT := Lib.hid (tell_true hp)
  have hp2 := hp.1
  have hp31 := hp.2.1
  have HP := Lib.hid hp
  clear hp
  by_cases hk : PtsOk p (ats zs n)
  case neg =>
    have HK := Lib.hid (tell_false hk)
    have HN := Lib.hid (tell_false (p := ShsOk p zs n) (fun q => hk q.2.1))
    clear hk
    go_enter Tryd.func19, Tryd.ntmps19
    go_wp2_with fail
    refine (l05Prime_any p _).mono ?_
    rintro e w' ⟨rfl, rfl⟩
    rw [HT.out]
    go_wp2_with fail
    refine (l05Places_any a zs n c w HI.out HZ.out hl).mono ?_
    rintro e w2 ⟨⟨v, rfl, ho⟩, hb⟩
    obtain ⟨va, vc, rfl, hi2, _⟩ := ho.ints
    have HB2 := Lib.hid hb
    have hal := ats_len zs n
    have hcp := l05Points_any p va (ats zs n) vc w2 hi2 (by rw [hal]; omega) hp2 hp31
    have HCP := Lib.hid hcp
    clear hcp ho hb hi2 hal
    go_wp2_with fail
    refine HCP.out.mono ?_
    rintro e w3 ⟨rfl, hq⟩
    rw [HK.out]
    have HB3 := Lib.hid (HB2.out.trans ((quiet_below hq).mono HB2.out.size))
    clear hq
    go_wp2
    go_ret
    exact ⟨ret_bool HN.out.symm, HB3.out⟩
  have HK := Lib.hid (tell_true hk)
  have HN := Lib.hid (show tell (Elems p (vls zs n)) = tell (ShsOk p zs n) from tell_congr ⟨fun q => ⟨HP.out, hk, q⟩, fun q => q.2.2⟩)
  clear hk
  go_enter Tryd.func19, Tryd.ntmps19
  go_wp2_with fail
  refine (l05Prime_any p _).mono ?_
  rintro e w' ⟨rfl, rfl⟩
  rw [HT.out]
  go_wp2_with fail
  refine (l05Places_any a zs n c w HI.out HZ.out hl).mono ?_
  rintro e w2 ⟨⟨v, rfl, ho⟩, hb⟩
  obtain ⟨va, vc, rfl, hi2, _⟩ := ho.ints
  have HB2 := Lib.hid hb
  have HI2 := Lib.hid (HI.out.step hb)
  have hal := ats_len zs n
  have hcp := l05Points_any p va (ats zs n) vc w2 hi2 (by rw [hal]; omega) hp2 hp31
  have HCP := Lib.hid hcp
  clear hcp ho hb hi2 hal
  go_wp2_with fail
  refine HCP.out.mono ?_
  rintro e w3 ⟨rfl, hq⟩
  rw [HK.out]
  have HB3 := Lib.hid (HB2.out.trans ((quiet_below hq).mono HB2.out.size))
  have HI3 := Lib.hid (HI2.out.quiet hq)
  clear hq HCP
  go_wp2_with fail
  refine (l05Values_any a zs n c w3 HI3.out HZ.out hl).mono ?_
  rintro e w4 ⟨⟨v, rfl, ho⟩, hb⟩
  obtain ⟨ua, uc, rfl, hi4, _⟩ := ho.ints
  have HB4 := Lib.hid (HB3.out.trans (hb.mono HB3.out.size))
  have hvl := vls_len zs n
  have hcp := l05Residues_any p ua (vls zs n) uc w4 hi4 (by rw [hvl]; omega) hp2 hp31
  have HCP := Lib.hid hcp
  clear hcp ho hb hi4 hvl
  go_wp2_with fail
  refine HCP.out.mono ?_
  rintro e w5 ⟨rfl, rfl⟩
  rw [HN.out]
  go_wp2
  go_ret
  exact ⟨rfl, HB4.out⟩
end Go.Proofs.YtgndekojodpmkaaDoor

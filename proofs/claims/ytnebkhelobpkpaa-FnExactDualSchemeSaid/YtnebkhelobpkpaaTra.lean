/- The transposed grid of the program. -/
import Derived.Test.YtnebkhelobpkpaaGp
import Derived.Test.YtnebkhelobpkpaaGm
namespace Go.Proofs.Ytnebkhelobpkpaa
open Go.RowKit Go.Deep
set_option linter.unusedVariables false

/-- What has been written when row i of z is at element j. -/
def trAt (z : List (List Int)) (i j : Nat) : Nat → Nat → Int := fun c r => if r < i ∨ (r = i ∧ c < j) then nth (nthL z r) c else 0
theorem trAt_step (z : List (List Int)) (i j : Nat) : putAt (trAt z i j) j i (nth (nthL z i) j) = trAt z i (j + 1) := by
  funext c r
  unfold putAt trAt
  by_cases h1 : c = j ∧ r = i
  · obtain ⟨rfl, rfl⟩ := h1; simp
  · rw [if_neg h1]
    have : (r < i ∨ r = i ∧ c < j) ↔ (r < i ∨ r = i ∧ c < j + 1) := by omega
    simp only [this]
/-- The columns of rows. -/
def turned (z : List (List Int)) (cn : Nat) : List (List Int) := tab cn z.length (fun c r => nth (nthL z r) c)
theorem tr_start (z : List (List Int)) (n cn : Nat) : zs cn n = tab cn n (trAt z 0 0) := by
  rw [zs_tab]
  refine tab_ext fun c r _ _ => ?_
  unfold trAt
  rw [if_neg (by omega)]
theorem tr_next (z : List (List Int)) (n cn i : Nat) : tab cn n (trAt z i cn) = tab cn n (trAt z (i + 1) 0) := by
  refine tab_ext fun c r hc hr => ?_
  unfold trAt
  have : (r < i ∨ r = i ∧ c < cn) ↔ (r < i + 1 ∨ r = i + 1 ∧ c < 0) := by omega
  simp only [this]
theorem tr_end (z : List (List Int)) (cn : Nat) : tab cn z.length (trAt z z.length 0) = turned z cn := by
  refine tab_ext fun c r hc hr => ?_
  unfold trAt
  rw [if_pos (by omega)]

set_option maxRecDepth 100000 in
set_option maxHeartbeats 4000000 in
theorem transposed_any (p : Int) (cn : Nat) (a : Option Addr) (ca : Nat) (z : List (List Int)) (w : World) (hr : GridR w a p z) (hz : z.length ≤ 1000) (hcn : cn ≤ 1000) (hrow : ∀ r, r < z.length → (nthL z r).length = cn) :
    Calls Try.prog 85 #[.agg #[.slice a z.length ca, .int .i64 p, .int .i64 (cn : Int)]] w fun e w' => (∃ v us, e = .returned (.agg #[v, .int .i64 p, .int .i64 z.length]) ∧ OwnG w' w.heap.size p v us (turned z cn)) ∧ Below w.heap.size w w' := by
  have HR := Lib.hid hr
  have HRW := Lib.hid hrow
  clear hr hrow
  go_enter Try.func85, Try.ntmps85
  go_wp2_with fail
  have hb2 := ((Below.refl w.heap.size w).alloc (Nat.le_refl _) (.cells #[.slice a z.length ca, .int .i64 p, .int .i64 (cn : Int)] 102)).alloc (by simp) (.cells #[.slice none 0 0, .int .i64 0, .int .i64 0] 102)
  have hx1 : Boxes ((w.alloc (.cells #[.slice a z.length ca, .int .i64 p, .int .i64 (cn : Int)] 102)).alloc (.cells #[.slice none 0 0, .int .i64 0, .int .i64 0] 102)) w.heap.size 102 #[.slice a z.length ca, .int .i64 p, .int .i64 (cn : Int)] := Boxes.step (World.alloc_heap_new w _) ((Below.refl _ _).alloc (Nat.le_refl _) (.cells #[.slice none 0 0, .int .i64 0, .int .i64 0] 102))
  have hx2 : Boxes ((w.alloc (.cells #[.slice a z.length ca, .int .i64 p, .int .i64 (cn : Int)] 102)).alloc (.cells #[.slice none 0 0, .int .i64 0, .int .i64 0] 102)) (w.heap.size + 1) 102 #[.slice none 0 0, .int .i64 0, .int .i64 0] := by
    have : Boxes ((w.alloc (.cells #[.slice a z.length ca, .int .i64 p, .int .i64 (cn : Int)] 102)).alloc (.cells #[.slice none 0 0, .int .i64 0, .int .i64 0] 102)) (w.alloc (.cells #[.slice a z.length ca, .int .i64 p, .int .i64 (cn : Int)] 102)).heap.size 102 #[.slice none 0 0, .int .i64 0, .int .i64 0] := World.alloc_heap_new _ _
    simp only [World.size_alloc] at this
    exact this
  have hs2 : ((w.alloc (.cells #[.slice a z.length ca, .int .i64 p, .int .i64 (cn : Int)] 102)).alloc (.cells #[.slice none 0 0, .int .i64 0, .int .i64 0] 102)).heap.size = w.heap.size + 2 := by simp
  refine (zeros_any p cn z.length _ hcn hz).mono ?_
  generalize (w.alloc (.cells #[.slice a z.length ca, .int .i64 p, .int .i64 (cn : Int)] 102)).alloc (.cells #[.slice none 0 0, .int .i64 0, .int .i64 0] 102) = w2 at *
  rintro e w3 ⟨⟨v, us, rfl, ho⟩, hb3⟩
  obtain ⟨va, vc, rfl⟩ := ho.form
  rw [zs_len]
  have hs3 : w.heap.size + 2 ≤ w3.heap.size := by have := hb3.size; omega
  have HX1 := Lib.hid (hx1.step hb3)
  have HX2 := Lib.hid (hx2.step hb3)
  have HB3 := Lib.hid (hb2.trans (hb3.mono (by omega)))
  have HO := Lib.hid (show OwnG w3 (w.heap.size + 2) p (.slice va cn vc) us (tab cn z.length (trAt z 0 0)) by
    have h1 := ho
    rw [hs2, tr_start z, tab_len] at h1
    exact h1)
  clear hb2 hx1 hx2 hb3 ho
  have hb4 := (Below.refl w3.heap.size w3).alloc (Nat.le_refl _) (.cells #[.slice va cn vc, .int .i64 p, .int .i64 (z.length : Int)] 102)
  have HX3 := Lib.hid (show Boxes (w3.alloc (.cells #[.slice va cn vc, .int .i64 p, .int .i64 (z.length : Int)] 102)) w3.heap.size 102 #[.slice va cn vc, .int .i64 p, .int .i64 (z.length : Int)] from World.alloc_heap_new _ _)
  have HY1 := Lib.hid (HX1.out.step hb4)
  have HY2 := Lib.hid (HX2.out.step hb4)
  have HO4 := Lib.hid (HO.out.step hb4)
  have HB4 := Lib.hid (HB3.out.trans (hb4.mono (by omega)))
  have c0 := HX1.out.m0
  have hl0 := HX1.out.lt
  have hl00 : w.heap.size < w3.heap.size + 1 := by omega
  go_wp2_with fail
  have hs4 : (w3.alloc (.cells #[.slice va cn vc, .int .i64 p, .int .i64 (z.length : Int)] 102)).heap.size = w3.heap.size + 1 := by simp
  generalize w3.alloc (.cells #[.slice va cn vc, .int .i64 p, .int .i64 (z.length : Int)] 102) = w4 at *
  generalize hq : w3.heap.size = q at *
  clear hb4 c0 hl0 hl00 HX1 HX2 HO HB3
  go_loopw [4, 5, 6, 7, 19] (fun q4 q5 q6 q7 i wr => ∃ (k : Nat), k ≤ z.length ∧ i = .int .i64 k ∧ Boxes wr (w.heap.size + 1) 102 #[.slice none 0 0, .int .i64 0, .int .i64 0] ∧ Boxes wr q 102 #[.slice va cn vc, .int .i64 p, .int .i64 (z.length : Int)] ∧ OwnG wr (w.heap.size + 2) p (.slice va cn vc) us (tab cn z.length (trAt z k 0)) ∧ Below w.heap.size w wr)
    (fun _ _ _ _ i _ => z.length - (intOf i).toNat)
  case atStart => exact ⟨0, Nat.zero_le _, rfl, HY2.out, HX3.out, HO4.out, HB4.out⟩
  case round =>
    obtain ⟨k, hk, rfl, hx2, hx3, hog, hb⟩ := hrel
    have D := Lib.hid (And.intro hx2 (And.intro hx3 (And.intro hog hb)))
    clear hx2 hx3 hog hb HY1 HY2 HX3 HO4 HB4
    obtain ⟨wo, rfl⟩ : ∃ wo : World, wo = wr := ⟨_, rfl⟩
    by_cases hlt : k < z.length
    · rcases HR.out.below D.out.2.2.2 (Nat.le_refl _) with h | ⟨b, rfl, hc⟩
      · rw [h] at hlt; exact absurd hlt (Nat.not_lt_zero _)
      obtain ⟨ai, ci, hcell, hnums⟩ := hc k hlt
      have hi0 : (k : Int) < (z.length : Int) := by omega
      have hlen := HRW.out k hlt
      rw [hlen] at hcell
      have HN := Lib.hid ((show GridR w (some ⟨b, 0, none⟩) p z from HR.out))
      have HNU := Lib.hid (nums_old HR.out D.out.2.2.2 hlt hcell hnums)
      clear hc hnums
      go_wp2_with fail
      go_loopw [6, 7, 26] (fun q6 q7 i wi => ∃ (j : Nat), j ≤ cn ∧ i = .int .i64 j ∧ Boxes wi (w.heap.size + 1) 102 #[.slice none 0 0, .int .i64 0, .int .i64 0] ∧ Boxes wi q 102 #[.slice va cn vc, .int .i64 p, .int .i64 (z.length : Int)] ∧ OwnG wi (w.heap.size + 2) p (.slice va cn vc) us (tab cn z.length (trAt z k j)) ∧ Below w.heap.size w wi)
        (fun _ _ i _ => cn - (intOf i).toNat)
      case atStart => exact ⟨0, Nat.zero_le _, rfl, D.out.1, D.out.2.1, D.out.2.2.1, D.out.2.2.2⟩
      case round =>
        obtain ⟨j, hj, rfl, hx2, hx3, hog, hb⟩ := hrel
        have DI := Lib.hid (And.intro hx2 (And.intro hx3 (And.intro hog hb)))
        clear hx2 hx3 hog hb
        by_cases hltj : j < cn
        · rcases HNU.out.below DI.out.2.2.2 (Nat.le_refl _) with h | ⟨b2, rfl, hc2⟩
          · exact absurd (show (nthL z k).length = 0 by rw [h]; rfl) (by omega)
          obtain ⟨hc20, hc21⟩ := hc2 j (by omega)
          have hj0 : (j : Int) < (cn : Int) := by omega
          obtain ⟨b3, c3, g, cap, hv, hu, hb3, hg3, hbl, hgl, hcr, hcc, hfz, hon⟩ := DI.out.2.2.1.at (r := j) (by rw [tab_len]; exact hltj) (by rw [tab_rlen _ _ _ hltj]; omega)
          have HU := Lib.hid hu
          rw [tab_rlen _ _ _ hltj] at hu hcr hon
          rw [tab_len] at hv
          cases hv
          obtain ⟨d0, d1⟩ := hcc k (by rw [tab_rlen _ _ _ hltj]; exact hlt)
          rw [tab_at _ _ _ hltj hlt] at d1
          have f0 := hfz (k * 2)
          have f1 := hfz (k * 2 + 1)
          have t0 := DI.out.2.1.m0
          have tl := DI.out.2.1.lt
          have hbl1 : b3 < wr.heap.size + 1 := by omega
          have hgl1 : g < wr.heap.size + 1 := by omega
          have tl1 : q < wr.heap.size + 1 := by omega
          have HNE := Lib.hid (show q ≠ g from DI.out.2.1.off hon (by decide))
          have HNE2 := Lib.hid (show w.heap.size + 1 ≠ g by omega)
          have HCJ := Lib.hid (show nth (nthL z k) j = nth (nthL z k) j from rfl)
          generalize hx : nth (nthL z k) j = x at *
          clear hc2 hcc hfz
          go_wp2_with fail
          go_region
          have HO6 := Lib.hid (show OwnG ((wr.setCell ⟨g, k * 2, none⟩ (.int .i64 p)).setCell ⟨g, k * 2 + 1, none⟩ (.int .i64 x)) (w.heap.size + 2) p (.slice (some ⟨b3, 0, none⟩) cn vc) us (tab cn z.length (trAt z k (j + 1))) by
            have := DI.out.2.2.1.put (r := j) (by rw [tab_len]; exact hltj) HU.out k x
            rw [tab_put _ _ _ _ _ hltj, ← hx, trAt_step, hx] at this
            exact this)
          have HXA := Lib.hid (DI.out.1.two (o := k * 2) (o2 := k * 2 + 1) (u := .int .i64 p) (u2 := .int .i64 x) HNE2.out)
          have HXB := Lib.hid (DI.out.2.1.two (o := k * 2) (o2 := k * 2 + 1) (u := .int .i64 p) (u2 := .int .i64 x) HNE.out)
          have HBB := Lib.hid ((DI.out.2.2.2.setCell (p := ⟨g, k * 2, none⟩) (by show w.heap.size ≤ g; omega) (.int .i64 p)).setCell (p := ⟨g, k * 2 + 1, none⟩) (by show w.heap.size ≤ g; omega) (.int .i64 x))
          generalize (wr.setCell ⟨g, k * 2, none⟩ (.int .i64 p)).setCell ⟨g, k * 2 + 1, none⟩ (.int .i64 x) = w6 at *
          have ha := (Below.refl w6.heap.size w6).alloc (Nat.le_refl _) (.cells #[.int .i64 p, .int .i64 x] 126)
          have HST := Lib.hid ha.drew
          go_wp2_with fail
          go_roundw
          case rel => exact ⟨j + 1, by omega, by go_num, HXA.out.step HST.out, HXB.out.step HST.out, HO6.out.step HST.out, HBB.out.trans (HST.out.mono HBB.out.size)⟩
          case measure => simp [intOf]; omega
        · have HE := Lib.hid (show j = cn by omega)
          go_wp2_with fail
          go_roundw
          case rel => exact ⟨k + 1, by omega, by go_num, DI.out.1, DI.out.2.1, by rw [← tr_next, ← HE.out]; rw [HE.out]; have := DI.out.2.2.1; rw [HE.out] at this; exact this, DI.out.2.2.2⟩
          case measure => simp [intOf]; omega
    · have HE := Lib.hid (show k = z.length by omega)
      have t0 := D.out.2.1.m0
      have t1 := D.out.2.1.m1
      have t2 := D.out.2.1.m2
      have e0 := D.out.1.m0
      have e1 := D.out.1.m1
      have e2 := D.out.1.m2
      have f0 := D.out.1.frozen 0
      have f1 := D.out.1.frozen 1
      have f2 := D.out.1.frozen 2
      go_wp2_with fail
      refine bodyPost_ret (v := .agg #[.slice va cn vc, .int .i64 p, .int .i64 (z.length : Int)]) (by simp [results, Try.results85, go_sem, e0, e1, e2]) rfl ⟨⟨_, us, rfl, ?_⟩, ?_⟩
      · have ho := D.out.2.2.1
        rw [HE.out, tr_end] at ho
        exact (((ho.setCell2 (p := ⟨w.heap.size + 1, 0, none⟩) (by show w.heap.size + 1 < w.heap.size + 2; omega) _).setCell2 (p := ⟨w.heap.size + 1, 1, none⟩) (by show w.heap.size + 1 < w.heap.size + 2; omega) _).setCell2 (p := ⟨w.heap.size + 1, 2, none⟩) (by show w.heap.size + 1 < w.heap.size + 2; omega) _).mono (Nat.le_add_right _ 2)
      · exact ((D.out.2.2.2.setCell (p := ⟨w.heap.size + 1, 0, none⟩) (Nat.le_add_right _ 1) _).setCell (p := ⟨w.heap.size + 1, 1, none⟩) (Nat.le_add_right _ 1) _).setCell (p := ⟨w.heap.size + 1, 2, none⟩) (Nat.le_add_right _ 1) _
end Go.Proofs.Ytnebkhelobpkpaa

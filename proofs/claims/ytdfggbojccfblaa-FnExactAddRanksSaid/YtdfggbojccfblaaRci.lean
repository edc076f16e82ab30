/- CutRanks of the program. -/
import Derived.Test.YtdfggbojccfblaaRmr
namespace Go.Proofs.Ytdfggbojccfblaa
open Go.RowKit Go.Deep Go.Shelf
set_option linter.unusedVariables false

set_option maxRecDepth 100000 in
set_option maxHeartbeats 1000000 in
theorem cut_tells (rb hb : Nat) (l : Int) (a : Option Addr) (z : List Int) (c m k : Nat) (w : World) (hx : Boxes w rb 27 #[.int .i64 (m : Int), .int .i64 l, .slice a z.length c]) (hy : Boxes w hb 2 #[.int .i64 (k : Nat)]) (hr : Ints w a z) (hz : z.length = 2 ^ m) (hm : m ≤ 5) (hk : k < m) :
    Tells w 55 #[] #[.pointer (some ⟨rb, 0, none⟩), .pointer (some ⟨hb, 0, none⟩)] (2 ^ (m - 1)) (fun x => nth z (wideN k x)) := by
  refine ⟨enters_of Try.func55 (by kernel_rfl) rfl, fun x W hxl hbW => ?_⟩
  show Calls Try.prog 55 #[.int .u64 (x : Int), .pointer (some ⟨rb, 0, none⟩), .pointer (some ⟨hb, 0, none⟩)] W _
  have hx16 : x < 16 := Nat.lt_of_lt_of_le hxl (Nat.pow_le_pow_right (by decide) (by omega) : 2 ^ (m - 1) ≤ 2 ^ 4)
  have hwl := wide_lt m hm k hk x hx16 hxl
  rw [← hz] at hwl
  have p2 := (hx.step hbW).m2
  have q0 : W.cell? ⟨hb, 0, none⟩ = some (.int .i64 (k : Nat)) := by rw [(hy.step hbW).cell]; rfl
  have HRM := Lib.hid (fun W => room_any x k W hx16 (by omega))
  rcases hr.step hbW with hh | ⟨b, o, rfl, hc⟩
  · rw [hh] at hwl; exact absurd hwl (Nat.not_lt_zero _)
  have g1 := hc _ hwl
  have hwi : ((wideN k x : Nat) : Int) < (z.length : Int) := by omega
  show Calls _ _ _ _ fun e W' => e = .returned (.int .i64 (nth z (wideN k x))) ∧ Quiet W W'
  generalize wideN k x = y at *
  generalize nth z y = v at *
  clear hc hx hy hr hz hm hk hbW hxl hx16 hwl
  go_enter Try.func55, Try.ntmps55
  go_wp2
  go_big_quiet ((go_at_call 56; exact Calls.quiet_of_same (swapped (HRM.out _))))
  go_wp2
  go_ret
  exact ⟨rfl, ⟨_, rfl⟩⟩

set_option maxRecDepth 100000 in
set_option maxHeartbeats 2000000 in
theorem implCr_any (h l k : Int) (a : Option Addr) (z : List Int) (c : Nat) (w : World) (hr : Ints w a z) (hl : LenI z) :
    Calls Try.prog 28 #[.agg #[.int .i64 h, .int .i64 l, .slice a z.length c], .int .i64 k] w (GivesKY w (crH h l z k) (crL h l z k) (crZ h l z k) (crC h l z k)) := by
  have hb1 := (Below.refl w.heap.size w).alloc (Nat.le_refl _) (.cells #[.int .i64 h, .int .i64 l, .slice a z.length c] 27)
  have hb2 := hb1.alloc (by simp) (.cells #[.int .i64 k] 2)
  have hb3 := hb2.alloc (by simp; omega) (.cells #[.int .i64 0, .int .i64 0, .slice none 0 0] 27)
  have hx := ((boxes_new w #[.int .i64 h, .int .i64 l, .slice a z.length c] 27).step ((Below.refl _ _).alloc (Nat.le_refl _) (.cells #[.int .i64 k] 2))).step ((Below.refl _ _).alloc (Nat.le_refl _) (.cells #[.int .i64 0, .int .i64 0, .slice none 0 0] 27))
  have hy := (boxes_new (w.alloc (.cells #[.int .i64 h, .int .i64 l, .slice a z.length c] 27)) #[.int .i64 k] 2).step ((Below.refl _ _).alloc (Nat.le_refl _) (.cells #[.int .i64 0, .int .i64 0, .slice none 0 0] 27))
  have hzz := boxes_new ((w.alloc (.cells #[.int .i64 h, .int .i64 l, .slice a z.length c] 27)).alloc (.cells #[.int .i64 k] 2)) #[.int .i64 0, .int .i64 0, .slice none 0 0] 27
  simp only [World.size_alloc] at hy hzz
  have HR := Lib.hid (hr.step hb3)
  have HL := Lib.hid hl
  have hvr := fun W => implVr_any h l a z c W
  go_enter Try.func28, Try.ntmps28
  go_wp2_with fail
  generalize ((w.alloc (.cells #[.int .i64 h, .int .i64 l, .slice a z.length c] 27)).alloc (.cells #[.int .i64 k] 2)).alloc (.cells #[.int .i64 0, .int .i64 0, .slice none 0 0] 27) = w3 at *
  refine (hvr w3 HR.out HL.out).mono ?_
  rintro e w4 ⟨rfl, hq⟩
  have HB := Lib.hid (chain hb3 hq)
  have HX := Lib.hid (hx.step hq)
  have HY := Lib.hid (hy.step hq)
  have HZ := Lib.hid (hzz.step hq)
  have HR4 := Lib.hid (HR.out.step hq)
  have c0 := HX.out.m0
  have c1 := HX.out.m1
  have c2 := HX.out.m2
  have d0 : w4.cell? ⟨w.heap.size + 1, 0, none⟩ = some (.int .i64 k) := by rw [HY.out.cell]; rfl
  have z0 := HZ.out.m0
  have z1 := HZ.out.m1
  have z2 := HZ.out.m2
  have f0 := HZ.out.frozen 0
  have f1 := HZ.out.frozen 1
  have f2 := HZ.out.frozen 2
  have hlt := HZ.out.lt
  clear hb1 hb2 hb3 hx hy hzz hq hvr hr hl
  by_cases hk : RkOk h l z
  case neg =>
    have HT := Lib.hid (tell_false hk)
    have HC := Lib.hid (cr_bad (k := k) hk)
    have HN := Lib.hid (cr_no (h := h) (l := l) (z := z) (k := k) (by rw [HC.out]; decide))
    clear hk
    rw [HT.out]
    go_wp2_with fail
    refine bodyPost_ret (v := .tuple #[.agg #[.int .i64 0, .int .i64 0, .slice none 0 0], .int .i64 1]) (by simp [results, Try.results28, go_sem, z0, z1, z2]) rfl (gives_none HN.out.1 HN.out.2.1 HN.out.2.2 HC.out ?_)
    exact ((HB.out.setCell (p := ⟨w.heap.size + 1 + 1, 0, none⟩) (by show w.heap.size ≤ w.heap.size + 1 + 1; omega) _).setCell (p := ⟨w.heap.size + 1 + 1, 1, none⟩) (by show w.heap.size ≤ w.heap.size + 1 + 1; omega) _).setCell (p := ⟨w.heap.size + 1 + 1, 2, none⟩) (by show w.heap.size ≤ w.heap.size + 1 + 1; omega) _
  have hh := hk.1.1
  obtain ⟨m, rfl⟩ : ∃ m : Nat, h = (m : Int) := ⟨h.toNat, by omega⟩
  have m1 : 1 ≤ m := by omega
  have m5 : m ≤ 5 := by omega
  have HK := Lib.hid hk
  have HT := Lib.hid (tell_true hk)
  clear hk hh
  rw [HT.out]
  by_cases hg : (0 ≤ k ∧ k < (m : Int)) ∧ (m : Int) ≠ 1
  case neg =>
    have HC := Lib.hid (cr_out HK.out hg)
    have HN := Lib.hid (cr_no (h := (m : Int)) (l := l) (z := z) (k := k) (by rw [HC.out]; decide))
    by_cases q1 : k < 0
    · have e1 : decide (k < 0) = true := by simp [q1]
      go_wp2_with fail
      refine bodyPost_ret (v := .tuple #[.agg #[.int .i64 0, .int .i64 0, .slice none 0 0], .int .i64 2]) (by simp [results, Try.results28, go_sem, z0, z1, z2]) rfl (gives_none HN.out.1 HN.out.2.1 HN.out.2.2 HC.out ?_)
      exact ((HB.out.setCell (p := ⟨w.heap.size + 1 + 1, 0, none⟩) (by show w.heap.size ≤ w.heap.size + 1 + 1; omega) _).setCell (p := ⟨w.heap.size + 1 + 1, 1, none⟩) (by show w.heap.size ≤ w.heap.size + 1 + 1; omega) _).setCell (p := ⟨w.heap.size + 1 + 1, 2, none⟩) (by show w.heap.size ≤ w.heap.size + 1 + 1; omega) _
    by_cases q2 : (m : Int) ≤ k
    · go_wp2_with fail
      refine bodyPost_ret (v := .tuple #[.agg #[.int .i64 0, .int .i64 0, .slice none 0 0], .int .i64 2]) (by simp [results, Try.results28, go_sem, z0, z1, z2]) rfl (gives_none HN.out.1 HN.out.2.1 HN.out.2.2 HC.out ?_)
      exact ((HB.out.setCell (p := ⟨w.heap.size + 1 + 1, 0, none⟩) (by show w.heap.size ≤ w.heap.size + 1 + 1; omega) _).setCell (p := ⟨w.heap.size + 1 + 1, 1, none⟩) (by show w.heap.size ≤ w.heap.size + 1 + 1; omega) _).setCell (p := ⟨w.heap.size + 1 + 1, 2, none⟩) (by show w.heap.size ≤ w.heap.size + 1 + 1; omega) _
    have q3 : m = 1 := by omega
    subst q3
    go_wp2_with fail
    refine bodyPost_ret (v := .tuple #[.agg #[.int .i64 0, .int .i64 0, .slice none 0 0], .int .i64 2]) (by simp [results, Try.results28, go_sem, z0, z1, z2]) rfl (gives_none HN.out.1 HN.out.2.1 HN.out.2.2 HC.out ?_)
    exact ((HB.out.setCell (p := ⟨w.heap.size + 1 + 1, 0, none⟩) (by show w.heap.size ≤ w.heap.size + 1 + 1; omega) _).setCell (p := ⟨w.heap.size + 1 + 1, 1, none⟩) (by show w.heap.size ≤ w.heap.size + 1 + 1; omega) _).setCell (p := ⟨w.heap.size + 1 + 1, 2, none⟩) (by show w.heap.size ≤ w.heap.size + 1 + 1; omega) _
  have HC := Lib.hid (cr_in HK.out hg)
  have HN := Lib.hid (cr_yes HC.out)
  obtain ⟨kn, rfl⟩ : ∃ kn : Nat, k = (kn : Int) := ⟨k.toNat, by omega⟩
  have hkm : kn < m := by omega
  have m2 : 2 ≤ m := by omega
  obtain ⟨m', hm'⟩ : ∃ m', m = m' + 1 := ⟨m - 1, by omega⟩
  have HM' := Lib.hid hm'
  have hm5 : m' ≤ 5 := by omega
  have q1 : ¬ (kn : Int) < 0 := by omega
  have q2 : ¬ (m : Int) ≤ (kn : Int) := by omega
  have q3 : ((m : Int) == 1) = false := by simp; omega
  have q3n : (m == 1) = false := by simp; omega
  have q4 : (m : Int) - 1 = (m' : Int) := by omega
  have htl := (cut_tells w.heap.size (w.heap.size + 1) l a z c m kn w4 HX.out HY.out HR4.out HK.out.len (by omega) hkm)
  rw [show m - 1 = m' by omega] at htl
  have HTL := Lib.hid htl
  clear htl hm'
  have HRB := Lib.hid (ranksBy_any l m' (2 ^ m') 55 #[] #[.pointer (some ⟨w.heap.size, 0, none⟩), .pointer (some ⟨w.heap.size + 1, 0, none⟩)] (fun x => nth z (wideN kn x)) w4 hm5 rfl HTL.out)
  clear hg
  go_wp2_with fail
  refine HRB.out.mono ?_
  rintro e w5 ⟨⟨v, rfl, ho⟩, hb⟩
  have HB5 := Lib.hid (chain HB.out hb)
  have HZ5 := Lib.hid (HZ.out.step hb)
  have HO5 := Lib.hid ho
  obtain ⟨va, vc, rfl⟩ := ho.form
  have y0 := HZ5.out.m0
  have y1 := HZ5.out.m1
  have y2 := HZ5.out.m2
  have x0 := HZ5.out.frozen 0
  have x1 := HZ5.out.frozen 1
  have x2 := HZ5.out.frozen 2
  have hlt5 := HZ5.out.lt
  have hs4 : w.heap.size + 1 + 1 < w4.heap.size := hlt
  clear ho hb z0 z1 z2 f0 f1 f2 c0 c1 c2 d0 hlt
  rw [numsBy_len] at HO5 ⊢
  go_wp2_with fail
  refine bodyPost_ret (v := .tuple #[.agg #[.int .i64 (m' : Int), .int .i64 l, .slice va (2 ^ m') vc], .int .i64 0]) (by simp [results, Try.results28, go_sem, y0, y1, y2]) rfl ?_
  have e1 : (m : Int).toNat - 1 = m' := by have := HM'.out; omega
  refine ⟨⟨.slice va (2 ^ m') vc, ?_, ?_⟩, ?_⟩
  · rw [HC.out, HN.out.1, HN.out.2.1, q4]
  · rw [HN.out.2.2, e1, Int.toNat_natCast]
    exact (((HO5.out.setCell2 (p := ⟨w.heap.size + 1 + 1, 0, none⟩) hs4 _).setCell2 (p := ⟨w.heap.size + 1 + 1, 1, none⟩) hs4 _).setCell2 (p := ⟨w.heap.size + 1 + 1, 2, none⟩) hs4 _).mono (by omega)
  · exact ((HB5.out.setCell (p := ⟨w.heap.size + 1 + 1, 0, none⟩) (by show w.heap.size ≤ w.heap.size + 1 + 1; omega) _).setCell (p := ⟨w.heap.size + 1 + 1, 1, none⟩) (by show w.heap.size ≤ w.heap.size + 1 + 1; omega) _).setCell (p := ⟨w.heap.size + 1 + 1, 2, none⟩) (by show w.heap.size ≤ w.heap.size + 1 + 1; omega) _
end Go.Proofs.Ytdfggbojccfblaa

/- AddRanks of the program. -/
import Derived.Test.YtdfggbojccfblaaAr0
import Derived.Test.YtdfggbojccfblaaRci
namespace Go.Proofs.Ytdfggbojccfblaa
open Go.RowKit Go.Deep Go.Shelf
set_option linter.unusedVariables false

set_option maxRecDepth 100000 in
set_option maxHeartbeats 1000000 in
theorem add_tells (rb sb : Nat) (h l : Int) (a : Option Addr) (z : List Int) (c : Nat) (h1 l1 : Int) (b : Option Addr) (y : List Int) (d n : Nat) (w : World) (hx : Boxes w rb 27 #[.int .i64 h, .int .i64 l, .slice a z.length c]) (hy : Boxes w sb 27 #[.int .i64 h1, .int .i64 l1, .slice b y.length d]) (hr : Ints w a z) (hq : Ints w b y) (hz : z.length = n) (hyn : y.length = n) (sz : SmallK z) (sy : SmallK y) (hn : n ≤ 32) :
    Tells w 52 #[] #[.pointer (some ⟨rb, 0, none⟩), .pointer (some ⟨sb, 0, none⟩)] n (fun x => nth z x + nth y x) := by
  refine ⟨enters_of Try.func52 (by kernel_rfl) rfl, fun x W hxl hbW => ?_⟩
  show Calls Try.prog 52 #[.int .u64 (x : Int), .pointer (some ⟨rb, 0, none⟩), .pointer (some ⟨sb, 0, none⟩)] W fun e W' => e = .returned (.int .i64 (nth z x + nth y x)) ∧ Quiet W W'
  have p2 := (hx.step hbW).m2
  have q2 := (hy.step hbW).m2
  have hxz : x < z.length := by omega
  have hxy : x < y.length := by omega
  have v1 := sz x hxz
  have v2 := sy x hxy
  rcases hr.step hbW with hh | ⟨b1, o1, rfl, hc1⟩
  · rw [hh] at hxz; exact absurd hxz (Nat.not_lt_zero _)
  rcases hq.step hbW with hh | ⟨b2, o2, rfl, hc2⟩
  · rw [hh] at hxy; exact absurd hxy (Nat.not_lt_zero _)
  have g1 := hc1 _ hxz
  have g2 := hc2 _ hxy
  have hi1 : (x : Int) < (z.length : Int) := by omega
  have hi2 : (x : Int) < (y.length : Int) := by omega
  generalize nth z x = x1 at *
  generalize nth y x = x2 at *
  have wv : IntKind.i64.wrap (x1 + x2) = x1 + x2 := IntWalk.i64_in _ (by omega)
  clear hc1 hc2 hx hy hr hq hz hyn sz sy hbW hxl v1 v2 hxz hxy hn
  go_enter Try.func52, Try.ntmps52
  go_wp2
  go_big_quiet (fail)
  go_wp2
  go_ret
  exact ⟨rfl, ⟨_, rfl⟩⟩

theorem OwnI.far {W : World} {base n c : Nat} {a : Option Addr} {z : List Int} (h : OwnI W base (.slice a n c) z) {p : Addr} (hp : (Value.slice a n c).ownBlock ≠ some p.block) (u : Value) : OwnI (W.setCell p u) base (.slice a n c) z :=
  World.ownsRow.kept h ⟨rfl, rfl, rfl, (KeepsWalks.setCell W _ u).size, fun q _ hq => Below.heap_setCell _ _ _ q (fun e => hq (by rw [e]))⟩ (row := some p.block) (.inr hp)
theorem max_of (z : List Int) (h : 1 ≤ z.length) : ∃ v : Int, ∀ c : Int, v ≤ c ↔ ∀ j, j < z.length → nth z j ≤ c := by
  have : ∀ n, 1 ≤ n → ∃ v : Int, ∀ c : Int, v ≤ c ↔ ∀ j, j < n → nth z j ≤ c := by
    intro n
    induction n with
    | zero => intro h; exact absurd h (by decide)
    | succ n ih =>
      intro _
      by_cases hn : 1 ≤ n
      · obtain ⟨v, hv⟩ := ih hn
        refine ⟨max v (nth z n), fun c => ⟨fun h j hj => ?_, fun h => ?_⟩⟩
        · by_cases e : j = n
          · subst e; omega
          · exact (hv c).1 (by omega) j (by omega)
        · have h1 := (hv c).2 fun j hj => h j (by omega)
          have h2 := h n (by omega)
          omega
      · obtain rfl : n = 0 := by omega
        exact ⟨nth z 0, fun c => ⟨fun h j hj => by rw [show j = 0 by omega]; exact h, fun h => h 0 (by omega)⟩⟩
  exact this _ h
set_option maxRecDepth 100000 in
set_option maxHeartbeats 1000000 in
theorem ranksWithin_any (h u : Int) (a : Option Addr) (z : List Int) (c base : Nat) (w : World) (ho : OwnI w base (.slice a z.length c) z) (hbw : base ≤ w.heap.size) (hl : LenI z) (h1 : 1 ≤ z.length) (q : Prop) (hq : q ↔ u ≤ 100000 ∧ ∀ i, i < z.length → nth z i ≤ 100000) :
    Calls Try.prog 50 #[.agg #[.int .i64 h, .int .i64 u, .slice a z.length c]] w fun e w' => ((q ∧ e = .returned (.tuple #[.agg #[.int .i64 h, .int .i64 u, .slice a z.length c], .int .i64 0]) ∧ OwnI w' base (.slice a z.length c) z) ∨ (¬ q ∧ e = .returned (.tuple #[.agg #[.int .i64 0, .int .i64 0, .slice none 0 0], .int .i64 3]))) ∧ Below w.heap.size w w' := by
  have hln := hl.n
  have hb1 := (Below.refl w.heap.size w).alloc (Nat.le_refl _) (.cells #[.int .i64 h, .int .i64 u, .slice a z.length c] 27)
  have hb2 := hb1.alloc (by simp) (.cells #[.int .i64 0, .int .i64 0, .slice none 0 0] 27)
  have hx := (boxes_new w #[.int .i64 h, .int .i64 u, .slice a z.length c] 27).step (alloc_b _ (.cells #[.int .i64 0, .int .i64 0, .slice none 0 0] 27))
  have hzz := boxes_new (w.alloc (.cells #[.int .i64 h, .int .i64 u, .slice a z.length c] 27)) #[.int .i64 0, .int .i64 0, .slice none 0 0] 27
  rw [World.size_alloc] at hzz
  have HO := Lib.hid (ho.step hb2)
  have HBW := Lib.hid hbw
  have HFAR := Lib.hid (show (Value.slice a z.length c).ownBlock ≠ some (w.heap.size + 1) from fun e => by have := (ho.lt e).2; omega)
  go_enter Try.func50, Try.ntmps50
  go_wp2_with fail
  generalize (w.alloc (.cells #[.int .i64 h, .int .i64 u, .slice a z.length c] 27)).alloc (.cells #[.int .i64 0, .int .i64 0, .slice none 0 0] 27) = w1 at *
  have HB := Lib.hid hb2
  have c0 := hx.m0
  have c1 := hx.m1
  have c2 := hx.m2
  have HZ := Lib.hid hzz
  have HX := Lib.hid hx
  have HMX := Lib.hid (fun W (k : Ints W a z) => slicesMax_any a z c W k hln h1)
  clear hb1 hb2 hx hzz
  obtain ⟨v, hv, hvm⟩ : ∃ v : Int, (∀ c : Int, v ≤ c ↔ ∀ j, j < z.length → nth z j ≤ c) ∧ ∀ W : World, Ints W a z → Calls Try.prog 38 #[.slice a z.length c] W fun e w' => e = .returned (.int .i64 v) ∧ W = w' := by
    obtain ⟨v, hv⟩ := max_of z h1
    refine ⟨v, hv, fun W k => (HMX.out W k).mono ?_⟩
    rintro e w' ⟨⟨u', rfl, hu⟩, rfl⟩
    have e1 : u' ≤ v := (hu v).2 fun j hj => (hv v).1 (Int.le_refl _) j hj
    have e2 : v ≤ u' := (hv u').2 fun j hj => (hu u').1 (Int.le_refl _) j hj
    exact ⟨by rw [show u' = v by omega], rfl⟩
  have HV := Lib.hid hv
  have HVM := Lib.hid hvm
  clear hv hvm
  have HI := Lib.hid (Ints_of_own HO.out)
  go_big_quiet ((go_at_call 38; exact Calls.quiet_of_same (swapped (HVM.out _ (HI.out.quiet ⟨_, rfl⟩)))))
  have HQB := Lib.hid (show q ↔ ¬ 100000 < (if u < v then v else u) by
    rw [hq]
    constructor
    · intro f
      have := (HV.out 100000).2 f.2
      split <;> omega
    · intro f
      by_cases k : u < v
      · rw [if_pos k] at f
        exact ⟨by omega, (HV.out 100000).1 (by omega)⟩
      · rw [if_neg k] at f
        exact ⟨by omega, (HV.out 100000).1 (by omega)⟩)
  generalize (if u < v then v else u) = t at *
  have z0 := HZ.out.m0
  have z1 := HZ.out.m1
  have z2 := HZ.out.m2
  have f0 := HZ.out.frozen 0
  have f1 := HZ.out.frozen 1
  have f2 := HZ.out.frozen 2
  have hlt := HZ.out.lt
  clear ho hbw hl h1 hq hln
  by_cases hb : 100000 < t
  · have HNQ := Lib.hid (show ¬ q from fun f => (HQB.out.1 f) hb)
    have e1 : decide (100000 < t) = true := by simp [hb]
    go_wp2
    refine bodyPost_ret (v := .tuple #[.agg #[.int .i64 0, .int .i64 0, .slice none 0 0], .int .i64 3]) (by simp [results, Try.results50, go_sem, z0, z1, z2]) rfl ⟨.inr ⟨HNQ.out, rfl⟩, ?_⟩
    exact (((HB.out.trans ((quiet_below ⟨_, rfl⟩).mono HB.out.size)).setCell (p := ⟨w.heap.size + 1, 0, none⟩) (by show w.heap.size ≤ w.heap.size + 1; omega) _).setCell (p := ⟨w.heap.size + 1, 1, none⟩) (by show w.heap.size ≤ w.heap.size + 1; omega) _).setCell (p := ⟨w.heap.size + 1, 2, none⟩) (by show w.heap.size ≤ w.heap.size + 1; omega) _
  · have HNQ := Lib.hid (show q from HQB.out.2 hb)
    have e1 : decide (100000 < t) = false := by simp; omega
    have hs0 : base < w.heap.size + 1 := by have := HBW.out; omega
    go_wp2
    refine bodyPost_ret (v := .tuple #[.agg #[.int .i64 h, .int .i64 u, .slice a z.length c], .int .i64 0]) (by simp [results, Try.results50, go_sem, z0, z1, z2]) rfl ⟨.inl ⟨HNQ.out, rfl, ?_⟩, ?_⟩
    · refine OwnI.far (OwnI.far (OwnI.far ?_ HFAR.out _) HFAR.out _) HFAR.out _
      exact HO.out.step (quiet_below ⟨_, rfl⟩)
    · exact (((HB.out.trans ((quiet_below ⟨_, rfl⟩).mono HB.out.size)).setCell (p := ⟨w.heap.size + 1, 0, none⟩) (by show w.heap.size ≤ w.heap.size + 1; omega) _).setCell (p := ⟨w.heap.size + 1, 1, none⟩) (by show w.heap.size ≤ w.heap.size + 1; omega) _).setCell (p := ⟨w.heap.size + 1, 2, none⟩) (by show w.heap.size ≤ w.heap.size + 1; omega) _

set_option maxRecDepth 100000 in
set_option maxHeartbeats 4000000 in
theorem implAr_any (h l : Int) (a : Option Addr) (z : List Int) (c : Nat) (h1 l1 : Int) (b : Option Addr) (y : List Int) (d : Nat) (w : World) (hr : Ints w a z) (hl : LenI z) (hq : Ints w b y) (hl1 : LenI y) :
    Calls Try.prog 24 #[.agg #[.int .i64 h, .int .i64 l, .slice a z.length c], .agg #[.int .i64 h1, .int .i64 l1, .slice b y.length d]] w (GivesKY w (arH h l z h1 l1 y) (arL h l z h1 l1 y) (arZ h l z h1 l1 y) (arC h l z h1 l1 y)) := by
  have hb1 := (Below.refl w.heap.size w).alloc (Nat.le_refl _) (.cells #[.int .i64 h, .int .i64 l, .slice a z.length c] 27)
  have hb2 := hb1.alloc (by simp) (.cells #[.int .i64 h1, .int .i64 l1, .slice b y.length d] 27)
  have hb3 := hb2.alloc (by simp; omega) (.cells #[.int .i64 0, .int .i64 0, .slice none 0 0] 27)
  have hx := ((boxes_new w #[.int .i64 h, .int .i64 l, .slice a z.length c] 27).step (alloc_b _ (.cells #[.int .i64 h1, .int .i64 l1, .slice b y.length d] 27))).step (alloc_b _ (.cells #[.int .i64 0, .int .i64 0, .slice none 0 0] 27))
  have hy := (boxes_new (w.alloc (.cells #[.int .i64 h, .int .i64 l, .slice a z.length c] 27)) #[.int .i64 h1, .int .i64 l1, .slice b y.length d] 27).step (alloc_b _ (.cells #[.int .i64 0, .int .i64 0, .slice none 0 0] 27))
  have hzz := boxes_new ((w.alloc (.cells #[.int .i64 h, .int .i64 l, .slice a z.length c] 27)).alloc (.cells #[.int .i64 h1, .int .i64 l1, .slice b y.length d] 27)) #[.int .i64 0, .int .i64 0, .slice none 0 0] 27
  simp only [World.size_alloc] at hy hzz
  have HR := Lib.hid (hr.step hb3)
  have HQ := Lib.hid (hq.step hb3)
  have hvr := fun W (q : Ints W a z) => implVr_any h l a z c W q hl
  have hvr1 := fun W (q : Ints W b y) => implVr_any h1 l1 b y d W q hl1
  go_enter Try.func24, Try.ntmps24
  go_wp2_with fail
  generalize ((w.alloc (.cells #[.int .i64 h, .int .i64 l, .slice a z.length c] 27)).alloc (.cells #[.int .i64 h1, .int .i64 l1, .slice b y.length d] 27)).alloc (.cells #[.int .i64 0, .int .i64 0, .slice none 0 0] 27) = w1 at *
  refine (hvr w1 HR.out).mono ?_
  rintro e w2' ⟨rfl, hqq⟩
  by_cases hk : RkOk h l z
  case neg =>
    have HB2 := Lib.hid (chain hb3 hqq)
    have HZ := Lib.hid (hzz.step hqq)
    have z0 := HZ.out.m0
    have z1 := HZ.out.m1
    have z2 := HZ.out.m2
    have f0 := HZ.out.frozen 0
    have f1 := HZ.out.frozen 1
    have f2 := HZ.out.frozen 2
    have hlt := HZ.out.lt
    have HT := Lib.hid (tell_false hk)
    have HC := Lib.hid (ar_bad (h := h) (l := l) (z := z) (h1 := h1) (l1 := l1) (y := y) (fun f => hk f.1))
    have HN := Lib.hid (ar_no (h := h) (l := l) (z := z) (h1 := h1) (l1 := l1) (y := y) (by rw [HC.out]; decide))
    clear hb1 hb2 hb3 hx hy hzz hqq hvr hvr1 hr hl hq hl1 hk
    rw [HT.out]
    go_wp2_with fail
    refine bodyPost_ret (v := .tuple #[.agg #[.int .i64 0, .int .i64 0, .slice none 0 0], .int .i64 1]) (by simp [results, Try.results24, go_sem, z0, z1, z2]) rfl (gives_none HN.out.1 HN.out.2.1 HN.out.2.2 HC.out ?_)
    exact ((HB2.out.setCell (p := ⟨w.heap.size + 1 + 1, 0, none⟩) (by show w.heap.size ≤ w.heap.size + 1 + 1; omega) _).setCell (p := ⟨w.heap.size + 1 + 1, 1, none⟩) (by show w.heap.size ≤ w.heap.size + 1 + 1; omega) _).setCell (p := ⟨w.heap.size + 1 + 1, 2, none⟩) (by show w.heap.size ≤ w.heap.size + 1 + 1; omega) _
  have HT := Lib.hid (tell_true hk)
  rw [HT.out]
  have hx' := hx.step hqq
  have hy' := hy.step hqq
  have hz' := hzz.step hqq
  have hb' := chain hb3 hqq
  have HR' := Lib.hid (HR.out.step hqq)
  have HQ' := Lib.hid (HQ.out.step hqq)
  have e0 := hy'.m0
  have e1 := hy'.m1
  have e2 := hy'.m2
  clear hqq hx hy hzz hb1 hb2 hb3
  go_wp2_with fail
  refine (hvr1 w2' HQ'.out).mono ?_
  rintro e w2 ⟨rfl, hqq⟩
  clear e0 e1 e2
  have HB2 := Lib.hid (chain hb' hqq)
  have HX := Lib.hid (hx'.step hqq)
  have HY := Lib.hid (hy'.step hqq)
  have HZ := Lib.hid (hz'.step hqq)
  have HR2 := Lib.hid (HR'.out.step hqq)
  have HQ2 := Lib.hid (HQ'.out.step hqq)
  have c0 := HX.out.m0
  have c1 := HX.out.m1
  have c2 := HX.out.m2
  have d0 := HY.out.m0
  have d1 := HY.out.m1
  have d2 := HY.out.m2
  have z0 := HZ.out.m0
  have z1 := HZ.out.m1
  have z2 := HZ.out.m2
  have f0 := HZ.out.frozen 0
  have f1 := HZ.out.frozen 1
  have f2 := HZ.out.frozen 2
  have hlt := HZ.out.lt
  clear hx' hy' hz' hb' hqq hvr hvr1 hr hl hq hl1
  by_cases hk1 : RkOk h1 l1 y
  case neg =>
    have HT1 := Lib.hid (tell_false hk1)
    have HC := Lib.hid (ar_bad (h := h) (l := l) (z := z) (h1 := h1) (l1 := l1) (y := y) (fun f => hk1 f.2))
    have HN := Lib.hid (ar_no (h := h) (l := l) (z := z) (h1 := h1) (l1 := l1) (y := y) (by rw [HC.out]; decide))
    clear hk hk1
    rw [HT1.out]
    go_wp2_with fail
    refine bodyPost_ret (v := .tuple #[.agg #[.int .i64 0, .int .i64 0, .slice none 0 0], .int .i64 1]) (by simp [results, Try.results24, go_sem, z0, z1, z2]) rfl (gives_none HN.out.1 HN.out.2.1 HN.out.2.2 HC.out ?_)
    exact ((HB2.out.setCell (p := ⟨w.heap.size + 1 + 1, 0, none⟩) (by show w.heap.size ≤ w.heap.size + 1 + 1; omega) _).setCell (p := ⟨w.heap.size + 1 + 1, 1, none⟩) (by show w.heap.size ≤ w.heap.size + 1 + 1; omega) _).setCell (p := ⟨w.heap.size + 1 + 1, 2, none⟩) (by show w.heap.size ≤ w.heap.size + 1 + 1; omega) _
  have HT1 := Lib.hid (tell_true hk1)
  rw [HT1.out]
  have HKK := Lib.hid (And.intro hk hk1)
  have hh := hk.1.1
  clear hk hk1
  by_cases he : h = h1
  case neg =>
    have HC := Lib.hid (ar_two HKK.out he)
    have HN := Lib.hid (ar_no (h := h) (l := l) (z := z) (h1 := h1) (l1 := l1) (y := y) (by rw [HC.out]; decide))
    have q1 : (h != h1) = true := by simp [he]
    clear he
    go_wp2_with fail
    refine bodyPost_ret (v := .tuple #[.agg #[.int .i64 0, .int .i64 0, .slice none 0 0], .int .i64 2]) (by simp [results, Try.results24, go_sem, z0, z1, z2]) rfl (gives_none HN.out.1 HN.out.2.1 HN.out.2.2 HC.out ?_)
    exact ((HB2.out.setCell (p := ⟨w.heap.size + 1 + 1, 0, none⟩) (by show w.heap.size ≤ w.heap.size + 1 + 1; omega) _).setCell (p := ⟨w.heap.size + 1 + 1, 1, none⟩) (by show w.heap.size ≤ w.heap.size + 1 + 1; omega) _).setCell (p := ⟨w.heap.size + 1 + 1, 2, none⟩) (by show w.heap.size ≤ w.heap.size + 1 + 1; omega) _
  subst he
  have q1 : (h != h) = false := by simp
  obtain ⟨m, rfl⟩ : ∃ m : Nat, h = (m : Int) := ⟨h.toNat, by omega⟩
  have m5 : m ≤ 5 := by omega
  obtain ⟨n, hn⟩ : ∃ n, 2 ^ m = n := ⟨_, rfl⟩
  have hn32 : n ≤ 32 := by rw [← hn]; exact pow5 m5
  have HZN := Lib.hid (show z.length = n by rw [HKK.out.1.len, hn])
  have HYN := Lib.hid (show y.length = n by rw [HKK.out.2.len, hn])
  have hn1 : 1 ≤ n := by rw [← hn]; exact Nat.one_le_two_pow
  have u1 := HKK.out.1.1.2.1
  have u2 := HKK.out.2.1.2.1
  have wl : IntKind.i64.wrap (l + l1) = l + l1 := IntWalk.i64_in _ (by omega)
  obtain ⟨lu, hlu⟩ : ∃ lu, l + l1 = lu := ⟨_, rfl⟩
  have HLU := Lib.hid hlu
  have HTL := Lib.hid (add_tells w.heap.size (w.heap.size + 1) (m : Int) l a z c (m : Int) l1 b y d n w2 HX.out HY.out HR2.out HQ2.out HZN.out HYN.out HKK.out.1.2.2.1 HKK.out.2.2.2.1 hn32)
  have HRB := Lib.hid (ranksBy_any lu m n 52 #[] #[.pointer (some ⟨w.heap.size, 0, none⟩), .pointer (some ⟨w.heap.size + 1, 0, none⟩)] (fun x => nth z x + nth y x) w2 m5 hn HTL.out)
  clear hh hn
  go_wp2_with fail
  refine HRB.out.mono ?_
  rintro e w5 ⟨⟨v, rfl, ho⟩, hb⟩
  have hs4 : w.heap.size + 1 + 1 < w2.heap.size := hlt
  have HB5 := Lib.hid (chain HB2.out hb)
  have HZ5 := Lib.hid (HZ.out.step hb)
  obtain ⟨va, vc, rfl⟩ := ho.form
  have hll := numsBy_len (fun x => nth z x + nth y x) n
  have HADD := Lib.hid (show numsBy (fun x => nth z x + nth y x) n = addZ z y by unfold addZ; rw [HZN.out])
  rw [HADD.out] at ho ⊢
  have HLA := Lib.hid (show (addZ z y).length = n by rw [addZ_len, HZN.out])
  have HO5 := Lib.hid ho
  have hsz5 := hb.size
  clear ho hb z0 z1 z2 f0 f1 f2 c0 c1 c2 d0 d1 d2 hlt hlu wl q1 hll
  go_wp2_with fail
  refine (ranksWithin_any (m : Int) lu va (addZ z y) vc w2.heap.size w5 HO5.out hsz5 ⟨by rw [HLA.out]; omega⟩ (by rw [HLA.out]; exact hn1) (FitS l l1 z y) (by
    rw [← HLU.out, HLA.out]
    unfold FitS
    rw [HZN.out]
    exact ⟨fun f => ⟨f.1, fun i hi => by rw [addZ_nth z y (by rw [HZN.out]; exact hi)]; exact f.2 i hi⟩, fun f => ⟨f.1, fun i hi => by have := f.2 i hi; rwa [addZ_nth z y (by rw [HZN.out]; exact hi)] at this⟩⟩)).mono ?_
  rintro e w7 ⟨hcase, hb7⟩
  have HB7 := Lib.hid (chain HB5.out hb7)
  have HZ7 := Lib.hid (HZ5.out.step hb7)
  have z0 := HZ7.out.m0
  have z1 := HZ7.out.m1
  have z2 := HZ7.out.m2
  have f0 := HZ7.out.frozen 0
  have f1 := HZ7.out.frozen 1
  have f2 := HZ7.out.frozen 2
  have hlt := HZ7.out.lt
  clear hb7
  rcases hcase with ⟨hf, rfl, hown⟩ | ⟨hf, rfl⟩
  · have HC := Lib.hid (ar_in HKK.out rfl hf)
    have HN := Lib.hid (ar_yes HC.out)
    have HO7 := Lib.hid hown
    clear hf hown
    go_wp2_with fail
    refine bodyPost_ret (v := .tuple #[.agg #[.int .i64 (m : Int), .int .i64 lu, .slice va (addZ z y).length vc], .int .i64 0]) (by simp [results, Try.results24, go_sem, z0, z1, z2]) rfl ?_
    refine ⟨⟨.slice va (addZ z y).length vc, ?_, ?_⟩, ?_⟩
    · rw [HC.out, HN.out.1, HN.out.2.1, HLU.out]
    · rw [HN.out.2.2]
      exact (((HO7.out.setCell2 (p := ⟨w.heap.size + 1 + 1, 0, none⟩) hs4 _).setCell2 (p := ⟨w.heap.size + 1 + 1, 1, none⟩) hs4 _).setCell2 (p := ⟨w.heap.size + 1 + 1, 2, none⟩) hs4 _).mono (by omega)
    · exact ((HB7.out.setCell (p := ⟨w.heap.size + 1 + 1, 0, none⟩) (by show w.heap.size ≤ w.heap.size + 1 + 1; omega) _).setCell (p := ⟨w.heap.size + 1 + 1, 1, none⟩) (by show w.heap.size ≤ w.heap.size + 1 + 1; omega) _).setCell (p := ⟨w.heap.size + 1 + 1, 2, none⟩) (by show w.heap.size ≤ w.heap.size + 1 + 1; omega) _
  · have HC := Lib.hid (ar_big HKK.out rfl hf)
    have HN := Lib.hid (ar_no (h := (m : Int)) (l := l) (z := z) (h1 := (m : Int)) (l1 := l1) (y := y) (by rw [HC.out]; decide))
    clear hf
    go_wp2_with fail
    refine bodyPost_ret (v := .tuple #[.agg #[.int .i64 0, .int .i64 0, .slice none 0 0], .int .i64 3]) (by simp [results, Try.results24, go_sem, z0, z1, z2]) rfl (gives_none HN.out.1 HN.out.2.1 HN.out.2.2 HC.out ?_)
    exact ((HB7.out.setCell (p := ⟨w.heap.size + 1 + 1, 0, none⟩) (by show w.heap.size ≤ w.heap.size + 1 + 1; omega) _).setCell (p := ⟨w.heap.size + 1 + 1, 1, none⟩) (by show w.heap.size ≤ w.heap.size + 1 + 1; omega) _).setCell (p := ⟨w.heap.size + 1 + 1, 2, none⟩) (by show w.heap.size ≤ w.heap.size + 1 + 1; omega) _

end Go.Proofs.Ytdfggbojccfblaa

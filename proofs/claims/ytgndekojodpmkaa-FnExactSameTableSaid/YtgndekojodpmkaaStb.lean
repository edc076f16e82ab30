/- The contracts of SameTable, the model's and the program's. -/
import Derived.Test.YtgndekojodpmkaaCmr
import Derived.Test.YtgndekojodpmkaaSm3
namespace Go.Proofs.Ytgndekojodpmkaa
open Go.RowKit Go.Deep
set_option linter.unusedVariables false

/-- Two tables are one. -/
def TabEq (h : Int) (yo : List Int) (z : List (List Int)) (h1 : Int) (yp : List Int) (y : List (List Int)) : Prop := h = h1 ∧ yo = yp ∧ z = y

set_option maxRecDepth 100000 in
theorem sameRow_any (s t : Int) (a b : Option Addr) (xs ys : List Int) (ca cb : Nat) (w : World) (ha : Ints w a xs) (hb : Ints w b ys) (hlx : xs.length ≤ 9223372036854775807) (hly : ys.length ≤ 9223372036854775807) :
    Calls Try.prog 40 #[.agg #[.int .i64 s, .slice a xs.length ca], .agg #[.int .i64 t, .slice b ys.length cb]] w fun e w' => e = .returned (.bool (tell (s :: xs = t :: ys))) ∧ Below w.heap.size w w' := by
  have hb1 := ((Below.refl w.heap.size w).alloc (Nat.le_refl _) (.cells #[.int .i64 s, .slice a xs.length ca] 62)).alloc (by simp) (.cells #[.int .i64 t, .slice b ys.length cb] 62)
  have HA := Lib.hid (ha.step hb1)
  have HB := Lib.hid (hb.step hb1)
  have HB1 := Lib.hid hb1
  have HE := Lib.hid (show tell (s :: xs = t :: ys) = (lexCmp (s :: xs) (t :: ys) == 0) by
    rw [← tell_congr (lex_zero (s :: xs) (t :: ys)), ← decide_tell]; rfl)
  clear ha hb hb1
  go_enter Try.func40, Try.ntmps40
  go_wp2_with fail
  refine (compareRows_any s t a b xs ys ca cb _ HA.out HB.out hlx hly).mono ?_
  rintro e w3 ⟨rfl, hb3⟩
  have HB3 := Lib.hid (chain HB1.out hb3)
  clear hb3
  generalize lexCmp (s :: xs) (t :: ys) = q at *
  go_wp2_with fail
  go_ret
  exact ⟨ret_bool HE.out.symm, HB3.out⟩

set_option maxRecDepth 100000 in
set_option maxHeartbeats 1000000 in
theorem rowsEqual_any (a b : Option Addr) (z y : List (List Int)) (ca cb : Nat) (w : World) (ha : RowsT w a z) (hb : RowsT w b y) (hlz : LensR z) (hly : LensR y) (hfz : Full z) (hfy : Full y) :
    Calls Try.prog 39 #[.slice a z.length ca, .slice b y.length cb, .func (.func 40) #[] #[]] w fun e w' => e = .returned (.bool (tell (z = y))) ∧ Below w.heap.size w w' := by
  have hl1 : z.length ≤ 9223372036854775807 := hlz.n
  have HLX := Lib.hid hlz
  have HLY := Lib.hid hly
  have HFX := Lib.hid hfz
  have HFY := Lib.hid hfy
  have HA := Lib.hid ha
  have HB := Lib.hid hb
  clear hlz hly hfz hfy ha hb
  by_cases hlen : z.length = y.length
  case neg =>
    have t0 : ((z.length : Int) != (y.length : Int)) = true := by simp; omega
    have t00 : (z.length != y.length) = true := by simp [hlen]
    have HN := Lib.hid (show ¬ z = y from fun e => hlen (by rw [e]))
    clear hlen
    go_enter Try.func39, Try.ntmps39
    go_wp2_with fail
    go_ret
    exact ⟨ret_bool (tell_false HN.out).symm, Below.refl _ _⟩
  have t0 : ((z.length : Int) != (y.length : Int)) = false := by simp [hlen]
  have t00 : (z.length != y.length) = false := by simp [hlen]
  have HLN := Lib.hid hlen
  clear hlen
  go_enter Try.func39, Try.ntmps39
  go_wp2_with fail
  go_loopw [17] (fun i wr => ∃ k : Nat, k ≤ z.length ∧ i = .int .i64 k ∧ Below w.heap.size w wr ∧ ∀ j, j < k → nthL z j = nthL y j)
    (fun i _ => z.length - (intOf i).toNat)
  case atStart => exact ⟨0, Nat.zero_le _, rfl, Below.refl _ _, fun j hj => absurd hj (Nat.not_lt_zero _)⟩
  case round =>
    obtain ⟨k, hk, rfl, hq, hall⟩ := hrel
    have HQ := Lib.hid hq
    have HAL := Lib.hid hall
    have hax := HA.out.below hq (Nat.le_refl _)
    have hbx := HB.out.below hq (Nat.le_refl _)
    clear hall
    by_cases hlt : k < z.length
    · have hlty : k < y.length := by have := HLN.out; omega
      rcases hax with h | ⟨b1, o1, rfl, hc1⟩
      · rw [h] at hlt; exact absurd hlt (Nat.not_lt_zero _)
      rcases hbx with h | ⟨b2, o2, rfl, hc2⟩
      · rw [h] at hlty; exact absurd hlty (Nat.not_lt_zero _)
      obtain ⟨ai, ci, g0, g1, i1⟩ := hc1 k hlt
      obtain ⟨aj, cj, g2, g3, i2⟩ := hc2 k hlty
      have hix : (k : Int) < (z.length : Int) := by omega
      have hiy : (k : Int) < (y.length : Int) := by omega
      have hx := HLX.out.r k hlt
      have hy := HLY.out.r k hlty
      have E1 := Lib.hid (row_split (HFX.out k hlt))
      have E2 := Lib.hid (row_split (HFY.out k hlty))
      have hlt1 := World.block_lt_of_cell? _ _ g0
      have hlt2 := World.block_lt_of_cell? _ _ g2
      generalize sec z k = s at g0 E1
      generalize shs z k = sh at g1 hx i1 E1
      generalize sec y k = t at g2 E2
      generalize shs y k = th at g3 hy i2 E2
      have hba := (Below.refl wr.heap.size wr).alloc (Nat.le_refl _) (.cells #[.int .i64 s, .slice ai sh.length ci] 62)
      have hbb := hba.alloc (by simp) (.cells #[.int .i64 t, .slice aj th.length cj] 62)
      have k2 := cell_step hba g2
      have k3 := cell_step hba g3
      have I1 := Lib.hid (i1.step hbb)
      have I2 := Lib.hid (i2.step hbb)
      have HQ2 := Lib.hid (hq.trans (hbb.mono hq.size))
      clear hc1 hc2 i1 i2 hba hbb hq
      go_wp2_with fail
      refine (sameRow_any s t ai aj sh th ci cj _ I1.out I2.out hx hy).mono ?_
      rintro e w3 ⟨rfl, hb3⟩
      have HB3 := Lib.hid (HQ2.out.trans (hb3.mono HQ2.out.size))
      clear hb3
      by_cases hne : s :: sh = t :: th
      · have HT := Lib.hid (tell_true hne)
        have HN := Lib.hid (show nthL z k = nthL y k by rw [E1.out, E2.out, hne])
        clear hne
        rw [HT.out]
        go_wp2_with fail
        go_roundw
        case rel =>
          refine ⟨k + 1, by omega, by go_num, HB3.out, fun j hj => ?_⟩
          by_cases e : j = k
          · subst e; exact HN.out
          · exact HAL.out j (by omega)
        case measure => simp [intOf]; omega
      · have HT := Lib.hid (tell_false hne)
        have HN := Lib.hid (show ¬ z = y from fun e => hne (by rw [← E1.out, ← E2.out, e]))
        clear hne
        rw [HT.out]
        go_wp2_with fail
        go_ret
        exact ⟨ret_bool (tell_false HN.out).symm, HB3.out⟩
    · have HY := Lib.hid (show z = y from ext_nthL HLN.out (fun i hi => HAL.out i (by omega)))
      go_wp2_with fail
      go_ret
      exact ⟨ret_bool (tell_true HY.out).symm, HQ.out⟩

set_option maxRecDepth 100000 in
set_option maxHeartbeats 1000000 in
theorem implStb_any (h : Int) (ao : Option Addr) (yo : List Int) (co : Nat) (a : Option Addr) (z : List (List Int)) (c : Nat) (h1 : Int) (bo : Option Addr) (yp : List Int) (eo : Nat) (b : Option Addr) (y : List (List Int)) (d : Nat) (w : World) (ha : InT w ao yo a z) (hb : InT w bo yp b y) (hla : LenT yo z) (hlb : LenT yp y) :
    Calls Try.prog 14 #[.agg #[.int .i64 h, .slice ao yo.length co, .slice a z.length c], .agg #[.int .i64 h1, .slice bo yp.length eo, .slice b y.length d]] w fun e w' => e = .returned (.bool (tell (TabEq h yo z h1 yp y))) ∧ Below w.heap.size w w' := by
  have HLA := Lib.hid hla
  have HLB := Lib.hid hlb
  have hb0 := (Below.refl w.heap.size w).alloc (Nat.le_refl _) (.cells #[.int .i64 h, .slice ao yo.length co, .slice a z.length c] 30)
  have hb1 := hb0.alloc (by simp) (.cells #[.int .i64 h1, .slice bo yp.length eo, .slice b y.length d] 30)
  have hx := Boxes.step (show Boxes (w.alloc (.cells #[.int .i64 h, .slice ao yo.length co, .slice a z.length c] 30)) w.heap.size 30 #[.int .i64 h, .slice ao yo.length co, .slice a z.length c] from World.alloc_heap_new w _) ((Below.refl _ _).alloc (Nat.le_refl _) (.cells #[.int .i64 h1, .slice bo yp.length eo, .slice b y.length d] 30))
  have hy : Boxes ((w.alloc (.cells #[.int .i64 h, .slice ao yo.length co, .slice a z.length c] 30)).alloc (.cells #[.int .i64 h1, .slice bo yp.length eo, .slice b y.length d] 30)) (w.heap.size + 1) 30 #[.int .i64 h1, .slice bo yp.length eo, .slice b y.length d] := by
    have : Boxes ((w.alloc (.cells #[.int .i64 h, .slice ao yo.length co, .slice a z.length c] 30)).alloc (.cells #[.int .i64 h1, .slice bo yp.length eo, .slice b y.length d] 30)) (w.alloc (.cells #[.int .i64 h, .slice ao yo.length co, .slice a z.length c] 30)).heap.size 30 #[.int .i64 h1, .slice bo yp.length eo, .slice b y.length d] := World.alloc_heap_new _ _
    simp only [World.size_alloc] at this
    exact this
  have HX := Lib.hid hx
  have HY := Lib.hid hy
  have HB1 := Lib.hid hb1
  have HA := Lib.hid (ha.step hb1)
  have HB := Lib.hid (hb.step hb1)
  clear hla hlb ha hb hb0 hb1 hx hy
  go_enter Try.func14, Try.ntmps14
  go_wp2_with fail
  refine (rowsEqual_any a b z y c d _ HA.out.r HB.out.r HLA.out.r HLB.out.r HLA.out.full HLB.out.full).mono ?_
  generalize ((w.alloc (.cells #[.int .i64 h, .slice ao yo.length co, .slice a z.length c] 30)).alloc (.cells #[.int .i64 h1, .slice bo yp.length eo, .slice b y.length d] 30)) = v1 at *
  rintro e w2 ⟨rfl, hb2⟩
  have HX2 := HX.out.step hb2
  have HY2 := HY.out.step hb2
  have HA2 := Lib.hid (HA.out.step hb2)
  have HB2 := Lib.hid (HB.out.step hb2)
  have HE := Lib.hid (chain HB1.out hb2)
  have c0 := HX2.m0
  have c1 := HX2.m1
  have d0 := HY2.m0
  have d1 := HY2.m1
  clear hb2 HX2 HY2 HX HY HA HB HB1
  by_cases hh : h = h1
  case neg =>
    have s0 : (h == h1) = false := by simp [hh]
    have HN := Lib.hid (tell_false (p := TabEq h yo z h1 yp y) (fun q => hh q.1))
    clear hh
    go_wp2_with fail
    go_ret
    exact ⟨ret_bool HN.out.symm, HE.out⟩
  have s0 : (h == h1) = true := by simp [hh]
  have H0 := Lib.hid hh
  clear hh
  go_wp2_with fail
  refine (slicesEqual_any ao bo yo yp co eo _ HA2.out.o HB2.out.o HLA.out.o HLB.out.o).mono ?_
  rintro e w3 ⟨rfl, hq⟩
  have HE3 := Lib.hid (chain HE.out (quiet_below hq))
  clear hq
  by_cases hy : yo = yp
  case neg =>
    have HT := Lib.hid (tell_false hy)
    have HN := Lib.hid (tell_false (p := TabEq h yo z h1 yp y) (fun q => hy q.2.1))
    clear hy
    rw [HT.out]
    go_wp2_with fail
    go_ret
    exact ⟨ret_bool HN.out.symm, HE3.out⟩
  have HT := Lib.hid (tell_true hy)
  have H1 := Lib.hid hy
  clear hy
  rw [HT.out]
  go_wp2_with fail
  go_ret
  exact ⟨ret_bool (tell_congr ⟨fun q => ⟨H0.out, H1.out, q⟩, fun q => q.2.2⟩), HE3.out⟩

set_option maxRecDepth 100000 in
set_option maxHeartbeats 2000000 in
theorem specStb_any (h : Int) (ao : Option Addr) (yo : List Int) (co : Nat) (a : Option Addr) (z : List (List Int)) (c : Nat) (h1 : Int) (bo : Option Addr) (yp : List Int) (eo : Nat) (b : Option Addr) (y : List (List Int)) (d : Nat) (w : World) (ha : InT w ao yo a z) (hb : InT w bo yp b y) (hla : LenT yo z) (hlb : LenT yp y) :
    Calls Try.prog 13 #[.agg #[.int .i64 h, .slice ao yo.length co, .slice a z.length c], .agg #[.int .i64 h1, .slice bo yp.length eo, .slice b y.length d]] w fun e w' => e = .returned (.bool (tell (TabEq h yo z h1 yp y))) ∧ Below w.heap.size w w' := by
  have hl1 : z.length ≤ 9223372036854775807 := hla.r.n
  have HLA := Lib.hid hla
  have HLB := Lib.hid hlb
  have hb0 := (Below.refl w.heap.size w).alloc (Nat.le_refl _) (.cells #[.int .i64 h, .slice ao yo.length co, .slice a z.length c] 30)
  have hb1 := hb0.alloc (by simp) (.cells #[.int .i64 h1, .slice bo yp.length eo, .slice b y.length d] 30)
  have hx := Boxes.step (show Boxes (w.alloc (.cells #[.int .i64 h, .slice ao yo.length co, .slice a z.length c] 30)) w.heap.size 30 #[.int .i64 h, .slice ao yo.length co, .slice a z.length c] from World.alloc_heap_new w _) ((Below.refl _ _).alloc (Nat.le_refl _) (.cells #[.int .i64 h1, .slice bo yp.length eo, .slice b y.length d] 30))
  have hy : Boxes ((w.alloc (.cells #[.int .i64 h, .slice ao yo.length co, .slice a z.length c] 30)).alloc (.cells #[.int .i64 h1, .slice bo yp.length eo, .slice b y.length d] 30)) (w.heap.size + 1) 30 #[.int .i64 h1, .slice bo yp.length eo, .slice b y.length d] := by
    have : Boxes ((w.alloc (.cells #[.int .i64 h, .slice ao yo.length co, .slice a z.length c] 30)).alloc (.cells #[.int .i64 h1, .slice bo yp.length eo, .slice b y.length d] 30)) (w.alloc (.cells #[.int .i64 h, .slice ao yo.length co, .slice a z.length c] 30)).heap.size 30 #[.int .i64 h1, .slice bo yp.length eo, .slice b y.length d] := World.alloc_heap_new _ _
    simp only [World.size_alloc] at this
    exact this
  have HX := Lib.hid hx
  have HY := Lib.hid hy
  have HB1 := Lib.hid hb1
  have HA := Lib.hid (ha.step hb1)
  have HB := Lib.hid (hb.step hb1)
  clear hla hlb ha hb hb0 hb1 hx hy
  by_cases hh : h = h1
  case neg =>
    have s0 : (h != h1) = true := by simp [hh]
    have HN := Lib.hid (tell_false (p := TabEq h yo z h1 yp y) (fun q => hh q.1))
    clear hh
    go_enter Try.func13, Try.ntmps13
    go_wp2_with fail
    go_ret
    exact ⟨ret_bool HN.out.symm, HB1.out⟩
  have s0 : (h != h1) = false := by simp [hh]
  have H0 := Lib.hid hh
  clear hh
  go_enter Try.func13, Try.ntmps13
  go_wp2_with fail
  refine (l00Same_any ao bo yo yp co eo _ HA.out.o HB.out.o HLA.out.o HLB.out.o).mono ?_
  generalize ((w.alloc (.cells #[.int .i64 h, .slice ao yo.length co, .slice a z.length c] 30)).alloc (.cells #[.int .i64 h1, .slice bo yp.length eo, .slice b y.length d] 30)) = v1 at *
  rintro e w2 ⟨rfl, hq⟩
  have hbq := quiet_below hq
  have HX2 := HX.out.step hbq
  have HY2 := HY.out.step hbq
  have HA2 := Lib.hid (HA.out.step hbq)
  have HB2 := Lib.hid (HB.out.step hbq)
  have HE := Lib.hid (chain HB1.out hbq)
  have c0 := HX2.m0
  have c2 := HX2.m2
  have d0 := HY2.m0
  have d2 := HY2.m2
  clear hq hbq HX2 HY2 HX HY HA HB HB1
  by_cases hy : yo = yp
  case neg =>
    have HT := Lib.hid (tell_false hy)
    have HN := Lib.hid (tell_false (p := TabEq h yo z h1 yp y) (fun q => hy q.2.1))
    clear hy
    rw [HT.out]
    go_wp2_with fail
    go_ret
    exact ⟨ret_bool HN.out.symm, HE.out⟩
  have HT := Lib.hid (tell_true hy)
  have H1 := Lib.hid hy
  clear hy
  rw [HT.out]
  by_cases hlen : z.length = y.length
  case neg =>
    have t0 : ((z.length : Int) != (y.length : Int)) = true := by simp; omega
    have t00 : (z.length != y.length) = true := by simp [hlen]
    have HN := Lib.hid (tell_false (p := TabEq h yo z h1 yp y) (fun q => hlen (by rw [q.2.2])))
    clear hlen
    go_wp2_with fail
    go_ret
    exact ⟨ret_bool HN.out.symm, HE.out⟩
  have t0 : ((z.length : Int) != (y.length : Int)) = false := by simp [hlen]
  have t00 : (z.length != y.length) = false := by simp [hlen]
  have HLN := Lib.hid hlen
  clear hlen
  go_wp2_with fail
  go_loopw [5] (fun i wr => ∃ k : Nat, k ≤ z.length ∧ i = .int .i64 k ∧ Quiet w2 wr ∧ ∀ j, j < k → nthL z j = nthL y j)
    (fun i _ => z.length - (intOf i).toNat)
  case atStart => exact ⟨0, Nat.zero_le _, rfl, Quiet.refl _, fun j hj => absurd hj (Nat.not_lt_zero _)⟩
  case round =>
    obtain ⟨k, hk, rfl, hq, hall⟩ := hrel
    have HQ := Lib.hid hq
    have HAL := Lib.hid hall
    have e2 := (hq.cell _).trans c2
    have f2 := (hq.cell _).trans d2
    have hax := HA2.out.r.quiet hq
    have hbx := HB2.out.r.quiet hq
    clear hall hq c0 c2 d0 d2
    by_cases hlt : k < z.length
    · have hlty : k < y.length := by have := HLN.out; omega
      rcases hax with h | ⟨b1, o1, rfl, hc1⟩
      · rw [h] at hlt; exact absurd hlt (Nat.not_lt_zero _)
      rcases hbx with h | ⟨b2, o2, rfl, hc2⟩
      · rw [h] at hlty; exact absurd hlty (Nat.not_lt_zero _)
      obtain ⟨ai, ci, g0, g1, i1⟩ := hc1 k hlt
      obtain ⟨aj, cj, g2, g3, i2⟩ := hc2 k hlty
      have hix : (k : Int) < (z.length : Int) := by omega
      have hiy : (k : Int) < (y.length : Int) := by omega
      have hx := HLA.out.r.r k hlt
      have hy := HLB.out.r.r k hlty
      have E1 := Lib.hid (row_split (HLA.out.full k hlt))
      have E2 := Lib.hid (row_split (HLB.out.full k hlty))
      generalize sec z k = s at g0 E1
      generalize shs z k = sh at g1 hx i1 E1
      generalize sec y k = t at g2 E2
      generalize shs y k = th at g3 hy i2 E2
      have I1 := Lib.hid i1
      have I2 := Lib.hid i2
      clear hc1 hc2 i1 i2
      by_cases hst : s = t
      case neg =>
        have t1 : (s != t) = true := by simp [hst]
        have HN := Lib.hid (tell_false (p := TabEq h yo z h1 yp y) (fun e => hst (by have := E1.out; rw [e.2.2, E2.out] at this; injection this with q _; exact q.symm)))
        clear hst
        go_wp2
        go_big_quiet (fail)
        go_wp2
        go_ret
        exact ⟨ret_bool HN.out.symm, chain HE.out (quiet_below (HQ.out.trans ⟨_, rfl⟩))⟩
      have t1 : (s != t) = false := by simp [hst]
      have HST := Lib.hid hst
      clear hst
      obtain ⟨u, hu⟩ : ∃ u : Bool, tell (sh = th) = u := ⟨_, rfl⟩
      have HU := Lib.hid hu
      clear hu
      go_wp2
      go_big_quiet ((go_at_call 38; refine Calls.quiet_of (v := .bool u) ?_; rw [← HU.out]; exact l00Same_any _ _ sh th _ _ _ (I1.out.quiet ⟨_, rfl⟩) (I2.out.quiet ⟨_, rfl⟩) hx hy))
      cases u with
      | true =>
        have HN := Lib.hid (show nthL z k = nthL y k by rw [E1.out, E2.out, HST.out, of_tell HU.out])
        go_wp2
        go_roundw
        case rel =>
          refine ⟨k + 1, by omega, by go_num, HQ.out.trans ⟨_, rfl⟩, fun j hj => ?_⟩
          by_cases e : j = k
          · subst e; exact HN.out
          · exact HAL.out j (by omega)
        case measure => simp [intOf]; omega
      | false =>
        have HN := Lib.hid (tell_false (p := TabEq h yo z h1 yp y) (fun e => of_tell_false HU.out (by have := E1.out; rw [e.2.2, E2.out] at this; injection this with _ q; exact q.symm)))
        go_wp2
        go_ret
        exact ⟨ret_bool HN.out.symm, chain HE.out (quiet_below (HQ.out.trans ⟨_, rfl⟩))⟩
    · have HY := Lib.hid (tell_true (p := TabEq h yo z h1 yp y) ⟨H0.out, H1.out, ext_nthL HLN.out (fun i hi => HAL.out i (by omega))⟩)
      go_wp2
      go_ret
      exact ⟨ret_bool HY.out.symm, chain HE.out (quiet_below HQ.out)⟩
end Go.Proofs.Ytgndekojodpmkaa

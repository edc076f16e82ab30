/- RankAt, both. -/
import Derived.Test.YtdfggbojccfblaaRvm
import Derived.Test.YtdfggbojccfblaaRvi
namespace Go.Proofs.Ytdfggbojccfblaa
open Go.RowKit Go.Deep
set_option linter.unusedVariables false

theorem bitsTo_ltP {m : Nat} {l : List Int} (h : IsGrp (m : Int) l) : ∀ k, k ≤ l.length → bitsTo l k < 2 ^ m
  | 0, _ => by simp [bitsTo, Nat.pow_pos]
  | k + 1, hk => by
    have h1 := bitsTo_ltP h k (by omega)
    obtain ⟨h2, h3, _⟩ := h k (by omega)
    exact Nat.or_lt_two_pow h1 (Nat.pow_lt_pow_right (by omega) (by omega))
theorem bitsOf_ltP {m : Nat} {l : List Int} (h : IsGrp (m : Int) l) : bitsOf l < 2 ^ m := bitsTo_ltP h _ (Nat.le_refl _)

set_option maxRecDepth 100000 in
set_option maxHeartbeats 400000 in
theorem l07Bits_any (a : Option Addr) (zs : List Int) (c : Nat) (n : Int) (w : World) (h : Ints w a zs) (hg : IsGrp n zs) (hn : n ≤ 7) (hl : zs.length ≤ 9223372036854775807) :
    Calls Try.prog 44 #[.slice a zs.length c] w fun e w' => e = .returned (.int .i64 (bitsOf zs : Nat)) ∧ w = w' := by
  have HG := Lib.hid hg
  clear hg
  go_enter Try.func44, Try.ntmps44
  go_wp2
  go_loop [3, 4] (fun g i => ∃ k : Nat, k ≤ zs.length ∧ i = .int .i64 k ∧ g = .int .i64 (bitsTo zs k : Nat))
    (fun _ i => zs.length - (intOf i).toNat)
  case atStart => exact ⟨0, Nat.zero_le _, rfl, rfl⟩
  case round =>
    obtain ⟨k, hk, rfl, rfl⟩ := hrel
    by_cases hlt : k < zs.length
    · rcases h with h | ⟨b, o, rfl, hc⟩
      · rw [h] at hlt; exact absurd hlt (Nat.not_lt_zero _)
      have hcell := hc k hlt
      have hb := HG.out k hlt
      have hz0 : 0 ≤ nth zs k := hb.1
      have hz1 : nth zs k ≤ 6 := by have := hb.2.1; omega
      clear hc hb
      go_wp2
      go_round
      case rel => exact ⟨k + 1, by omega, by go_num, by rw [bits_step (bitsTo_lt HG.out hn k (by omega)) (by omega)]; rfl⟩
      case measure => simp [intOf]; omega
    · go_wp2
      go_ret
      exact ⟨by rw [show k = zs.length by omega]; rfl, rfl⟩

noncomputable def raV (h l : Int) (z g : List Int) : Int := if tell (RkOk h l z ∧ IsGrp h g) = true then nth z (bitsOf g) else 0
noncomputable def raC (h l : Int) (z g : List Int) : Int := if tell (RkOk h l z) = true then (if tell (IsGrp h g) = true then 0 else 2) else 1
theorem ra_bad {h l : Int} {z g : List Int} (k : ¬ RkOk h l z) : raV h l z g = 0 ∧ raC h l z g = 1 := by
  constructor
  · rw [raV, if_neg]; rw [tell_false (fun q => k q.1)]; simp
  · rw [raC, if_neg]; rw [tell_false k]; simp
theorem ra_out {h l : Int} {z g : List Int} (k : RkOk h l z) (q : ¬ IsGrp h g) : raV h l z g = 0 ∧ raC h l z g = 2 := by
  constructor
  · rw [raV, if_neg]; rw [tell_false (fun f => q f.2)]; simp
  · rw [raC, if_pos (tell_true k), if_neg]; rw [tell_false q]; simp
theorem ra_in {h l : Int} {z g : List Int} (k : RkOk h l z) (q : IsGrp h g) : raV h l z g = nth z (bitsOf g) ∧ raC h l z g = 0 :=
  ⟨by rw [raV, if_pos (tell_true ⟨k, q⟩)], by rw [raC, if_pos (tell_true k), if_pos (tell_true q)]⟩
theorem RkOk.len {m : Nat} {l : Int} {z : List Int} (h : RkOk (m : Int) l z) : z.length = 2 ^ m := by have := h.1.2.2; simpa using this

set_option maxRecDepth 100000 in
set_option maxHeartbeats 1000000 in
theorem specRat_any (h l : Int) (a : Option Addr) (z : List Int) (c : Nat) (b : Option Addr) (g : List Int) (d : Nat) (w : World) (hr : Ints w a z) (hl : LenI z) (hi : Ints w b g) (hgl : g.length ≤ 9223372036854775807) :
    Calls Try.prog 17 #[.agg #[.int .i64 h, .int .i64 l, .slice a z.length c], .slice b g.length d] w fun e w' => e = .returned (.tuple #[.int .i64 (raV h l z g), .int .i64 (raC h l z g)]) ∧ Below w.heap.size w w' := by
  have hx := boxes_new w #[.int .i64 h, .int .i64 l, .slice a z.length c] 27
  have hb1 := (Below.refl w.heap.size w).alloc (Nat.le_refl _) (.cells #[.int .i64 h, .int .i64 l, .slice a z.length c] 27)
  have HX := Lib.hid hx
  have HB := Lib.hid hb1
  have HR := Lib.hid (hr.step hb1)
  have HI := Lib.hid (hi.step hb1)
  have HL := Lib.hid hl
  clear hx hb1 hr hi hl
  by_cases hk : RkOk h l z
  case neg =>
    have HT := Lib.hid (tell_false hk)
    obtain ⟨v1, v2⟩ := ra_bad (g := g) hk
    have V1 := Lib.hid v1
    have V2 := Lib.hid v2
    clear hk v1 v2
    go_enter Try.func17, Try.ntmps17
    go_wp2_with fail
    refine (l07Ok_any w.heap.size h l a z c _ HX.out HR.out HL.out).mono ?_
    generalize w.alloc (.cells #[.int .i64 h, .int .i64 l, .slice a z.length c] 27) = w1 at *
    rintro e w2 ⟨rfl, hq⟩
    have HB2 := Lib.hid (chain HB.out (quiet_below hq))
    clear hq
    rw [HT.out]
    go_wp2_with fail
    go_ret2
    exact ⟨by rw [V1.out, V2.out]; rfl, HB2.out⟩
  have hh := hk.1.1
  obtain ⟨m, rfl⟩ : ∃ m : Nat, h = (m : Int) := ⟨h.toNat, by omega⟩
  have m1 : 1 ≤ m := by omega
  have m5 : m ≤ 5 := by omega
  have HK := Lib.hid hk
  have HT := Lib.hid (tell_true hk)
  clear hk hh
  by_cases hg : IsGrp (m : Int) g
  case neg =>
    have HT2 := Lib.hid (show tell (Rises 0 ((m : Int) - 1) g) = false from tell_false hg)
    obtain ⟨v1, v2⟩ := ra_out HK.out hg
    have V1 := Lib.hid v1
    have V2 := Lib.hid v2
    clear hg v1 v2
    go_enter Try.func17, Try.ntmps17
    go_wp2_with fail
    refine (l07Ok_any w.heap.size m l a z c _ HX.out HR.out HL.out).mono ?_
    generalize w.alloc (.cells #[.int .i64 (m : Int), .int .i64 l, .slice a z.length c] 27) = w1 at *
    rintro e w2 ⟨rfl, hq⟩
    have HB2 := Lib.hid (chain HB.out (quiet_below hq))
    have HI2 := Lib.hid (HI.out.quiet hq)
    have p0 := (hq.cell _).trans HX.out.m0
    clear hq
    rw [HT.out]
    go_wp2_with fail
    refine (l00Rises_any b g d 0 ((m : Int) - 1) w2 HI2.out hgl).mono ?_
    rintro e w3 ⟨rfl, hq⟩
    have HB3 := Lib.hid (chain HB2.out (quiet_below hq))
    clear hq p0
    rw [HT2.out]
    go_wp2_with fail
    go_ret2
    exact ⟨by rw [V1.out, V2.out]; rfl, HB3.out⟩
  have HT2 := Lib.hid (show tell (Rises 0 ((m : Int) - 1) g) = true from tell_true hg)
  obtain ⟨v1, v2⟩ := ra_in HK.out hg
  have hxl : bitsOf g < z.length := by rw [HK.out.len]; exact bitsOf_ltP hg
  obtain ⟨x, hx⟩ : ∃ x, bitsOf g = x := ⟨_, rfl⟩
  have hlb : ∀ W : World, Ints W b g → Calls Try.prog 44 #[.slice b g.length d] W fun e w' => e = .returned (.int .i64 (x : Nat)) ∧ W = w' := fun W k => by
    have := l07Bits_any b g d (m : Int) W k hg (by omega) hgl
    rw [hx] at this
    exact this
  have HLB := Lib.hid hlb
  rw [hx] at v1 hxl
  have V1 := Lib.hid v1
  have V2 := Lib.hid v2
  have hxi : (x : Int) < (z.length : Int) := by omega
  clear hg v1 v2 hx hlb
  go_enter Try.func17, Try.ntmps17
  go_wp2_with fail
  refine (l07Ok_any w.heap.size m l a z c _ HX.out HR.out HL.out).mono ?_
  generalize w.alloc (.cells #[.int .i64 (m : Int), .int .i64 l, .slice a z.length c] 27) = w1 at *
  rintro e w2 ⟨rfl, hq⟩
  have HB2 := Lib.hid (chain HB.out (quiet_below hq))
  have HI2 := Lib.hid (HI.out.quiet hq)
  have HR2 := Lib.hid (HR.out.quiet hq)
  have HX2 := Lib.hid (HX.out.quiet hq)
  have p0 := HX2.out.m0
  clear hq
  rw [HT.out]
  go_wp2_with fail
  refine (l00Rises_any b g d 0 ((m : Int) - 1) w2 HI2.out hgl).mono ?_
  rintro e w3 ⟨rfl, hq⟩
  have HB3 := Lib.hid (chain HB2.out (quiet_below hq))
  have HI3 := Lib.hid (HI2.out.quiet hq)
  have p2 := (HX2.out.quiet hq).m2
  rcases HR2.out.quiet hq with hh | ⟨bb, oo, rfl, hc⟩
  · rw [hh] at hxl; exact absurd hxl (Nat.not_lt_zero _)
  have g1 := hc x hxl
  clear hq p0 hc
  generalize nth z x = v at *
  rw [HT2.out]
  go_wp2_with fail
  go_big_quiet ((go_at_call 44; exact Calls.quiet_of_same (swapped (HLB.out _ (HI3.out.quiet ⟨_, rfl⟩)))))
  go_wp2
  go_ret2
  exact ⟨by rw [V1.out, V2.out]; rfl, chain HB3.out (quiet_below ⟨_, rfl⟩)⟩

set_option maxRecDepth 100000 in
set_option maxHeartbeats 1000000 in
theorem implRat_any (h l : Int) (a : Option Addr) (z : List Int) (c : Nat) (b : Option Addr) (g : List Int) (d : Nat) (w : World) (hr : Ints w a z) (hl : LenI z) (hi : Ints w b g) (hgl : g.length ≤ 9223372036854775807) :
    Calls Try.prog 19 #[.agg #[.int .i64 h, .int .i64 l, .slice a z.length c], .slice b g.length d] w fun e w' => e = .returned (.tuple #[.int .i64 (raV h l z g), .int .i64 (raC h l z g)]) ∧ Below w.heap.size w w' := by
  have hx := boxes_new w #[.int .i64 h, .int .i64 l, .slice a z.length c] 27
  have hb1 := (Below.refl w.heap.size w).alloc (Nat.le_refl _) (.cells #[.int .i64 h, .int .i64 l, .slice a z.length c] 27)
  have HX := Lib.hid hx
  have HB := Lib.hid hb1
  have HR := Lib.hid (hr.step hb1)
  have HI := Lib.hid (hi.step hb1)
  have HL := Lib.hid hl
  clear hx hb1 hr hi hl
  by_cases hk : RkOk h l z
  case neg =>
    have HT := Lib.hid (tell_false hk)
    obtain ⟨v1, v2⟩ := ra_bad (g := g) hk
    have V1 := Lib.hid v1
    have V2 := Lib.hid v2
    clear hk v1 v2
    go_enter Try.func19, Try.ntmps19
    go_wp2_with fail
    refine (implVr_any h l a z c _ HR.out HL.out).mono ?_
    generalize w.alloc (.cells #[.int .i64 h, .int .i64 l, .slice a z.length c] 27) = w1 at *
    rintro e w2 ⟨rfl, hq⟩
    have HB2 := Lib.hid (chain HB.out hq)
    clear hq
    rw [HT.out]
    go_wp2_with fail
    go_ret2
    exact ⟨by rw [V1.out, V2.out]; rfl, HB2.out⟩
  have hh := hk.1.1
  obtain ⟨m, rfl⟩ : ∃ m : Nat, h = (m : Int) := ⟨h.toNat, by omega⟩
  have m1 : 1 ≤ m := by omega
  have m5 : m ≤ 5 := by omega
  have HK := Lib.hid hk
  have HT := Lib.hid (tell_true hk)
  clear hk hh
  by_cases hg : IsGrp (m : Int) g
  case neg =>
    have hgt := Lib.hid (show setVal (m : Int) g = .tuple #[.int .u64 0, .bool false] by rw [setVal, tell_false hg]; rfl)
    obtain ⟨v1, v2⟩ := ra_out HK.out hg
    have V1 := Lib.hid v1
    have V2 := Lib.hid v2
    clear hg v1 v2
    go_enter Try.func19, Try.ntmps19
    go_wp2_with fail
    refine (implVr_any m l a z c _ HR.out HL.out).mono ?_
    generalize w.alloc (.cells #[.int .i64 (m : Int), .int .i64 l, .slice a z.length c] 27) = w1 at *
    rintro e w2 ⟨rfl, hq⟩
    have HB2 := Lib.hid (chain HB.out hq)
    have HI2 := Lib.hid (HI.out.step hq)
    have p0 := (HX.out.step hq).m0
    clear hq
    rw [HT.out]
    go_wp2_with fail
    refine (setOf_any b g d (m : Int) w2 HI2.out (by omega) hgl).mono ?_
    rintro e w3 ⟨rfl, rfl⟩
    rw [hgt.out]
    go_wp2_with fail
    go_ret2
    exact ⟨by rw [V1.out, V2.out]; rfl, HB2.out⟩
  have hgt := Lib.hid (show setVal (m : Int) g = .tuple #[.int .u64 ((bitsOf g : Nat) : Int), .bool true] by rw [setVal, tell_true hg]; rfl)
  obtain ⟨v1, v2⟩ := ra_in HK.out hg
  have hxl : bitsOf g < z.length := by rw [HK.out.len]; exact bitsOf_ltP hg
  have V1 := Lib.hid v1
  have V2 := Lib.hid v2
  have hxi : ((bitsOf g : Nat) : Int) < (z.length : Int) := by omega
  clear hg v1 v2
  go_enter Try.func19, Try.ntmps19
  go_wp2_with fail
  refine (implVr_any m l a z c _ HR.out HL.out).mono ?_
  generalize w.alloc (.cells #[.int .i64 (m : Int), .int .i64 l, .slice a z.length c] 27) = w1 at *
  rintro e w2 ⟨rfl, hq⟩
  have HB2 := Lib.hid (chain HB.out hq)
  have HI2 := Lib.hid (HI.out.step hq)
  have p0 := (HX.out.step hq).m0
  have p2 := (HX.out.step hq).m2
  rcases HR.out.step hq with hh | ⟨bb, oo, rfl, hc⟩
  · rw [hh] at hxl; exact absurd hxl (Nat.not_lt_zero _)
  have g1 := hc (bitsOf g) hxl
  clear hq hc
  rw [HT.out]
  go_wp2_with fail
  refine (setOf_any b g d (m : Int) w2 HI2.out (by omega) hgl).mono ?_
  rintro e w3 ⟨rfl, rfl⟩
  rw [hgt.out]
  generalize bitsOf g = x at *
  generalize nth z x = v at *
  go_wp2_with fail
  go_ret2
  exact ⟨by rw [V1.out, V2.out]; rfl, HB2.out⟩
end Go.Proofs.Ytdfggbojccfblaa

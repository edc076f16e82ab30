/- The contracts of the laws' own helpers on families: eqInt64SS, szFamily, toFamily, eqFamily. -/
import Derived.Test.YtnebkhelobpkpaaDoorTo
import Derived.Test.YtnebkhelobpkpaaDoorSz
import Derived.Handy
namespace Go.Proofs.YtnebkhelobpkpaaDoor
open Go.RowKit Go.Deep

theorem quiet_below {w w' : World} (h : Quiet w w') : Below w.heap.size w w' := by
  obtain ⟨n, rfl⟩ := h
  exact below_drewN (Below.refl _ _) n
theorem Ints.quiet {w w' : World} {a : Option Addr} {zs : List Int} (h : Ints w a zs) (q : Quiet w w') : Ints w' a zs := h.below (quiet_below q) (Nat.le_refl _)
theorem Rows2.quiet {w w' : World} {a : Option Addr} {zss : List (List Int)} (h : Rows2 w a zss) (q : Quiet w w') : Rows2 w' a zss := h.below (quiet_below q) (Nat.le_refl _)
theorem Quiet.cell {w w' : World} (h : Quiet w w') (p : Addr) : w'.cell? p = w.cell? p := by
  obtain ⟨n, rfl⟩ := h
  exact World.cell?_drewN _ _ _
theorem Quiet.trans {a b c : World} (h : Quiet a b) (k : Quiet b c) : Quiet a c := by
  obtain ⟨n, rfl⟩ := h
  obtain ⟨m, rfl⟩ := k
  exact ⟨n + m, by rw [World.drewN_drewN]⟩

set_option maxRecDepth 100000 in
/-- 'eqInt64SS' at one list twice: true. -/
theorem eqInt64SS_same (a b : Option Addr) (xs : List (List Int)) (ca cb : Nat) (w : World) (ha : Rows2 w a xs) (hb : Rows2 w b xs) (hl : xs.length ≤ 9223372036854775807) (hll : ∀ r, r < xs.length → (nthL xs r).length ≤ 9223372036854775807) :
    Calls Tryd.prog 40 #[.slice a xs.length ca, .slice b xs.length cb] w fun e w' => e = .returned (.bool true) ∧ Quiet w w' := by
  have HL := Lib.hid hll
  clear hll
  go_enter Tryd.func40, Tryd.ntmps40
  go_wp2
  go_loopw [5] (fun i wr => ∃ k : Nat, k ≤ xs.length ∧ i = .int .i64 k ∧ Quiet w wr)
    (fun i _ => xs.length - (intOf i).toNat)
  case atStart => exact ⟨0, Nat.zero_le _, rfl, Quiet.refl _⟩
  case round =>
    obtain ⟨k, hk, rfl, hq⟩ := hrel
    by_cases hlt : k < xs.length
    · have ha' := ha.quiet hq
      have hb' := hb.quiet hq
      rcases ha' with h | ⟨b1, o1, rfl, hc1⟩
      · rw [h] at hlt; exact absurd hlt (Nat.not_lt_zero _)
      rcases hb' with h | ⟨b2, o2, rfl, hc2⟩
      · rw [h] at hlt; exact absurd hlt (Nat.not_lt_zero _)
      obtain ⟨a1, c1, g1, i1⟩ := hc1 k hlt
      obtain ⟨a2, c2, g2, i2⟩ := hc2 k hlt
      have hi : ((k : Int)) < (xs.length : Int) := by omega
      have I1 := Lib.hid i1
      have I2 := Lib.hid i2
      have HQ := Lib.hid hq
      clear hc1 hc2 i1 i2 hq
      go_wp2
      go_quiet ((go_at_call 12; refine Calls.quiet_of (eqInt64S_same _ _ (nthL xs k) _ _ _ ?_ ?_ (HL.out k hlt)); exact (I1.out.quiet ⟨_, rfl⟩); exact (I2.out.quiet ⟨_, rfl⟩)))
      go_wp2
      go_roundw
      case rel => exact ⟨k + 1, by omega, by go_num, HQ.out.trans ⟨_, rfl⟩⟩
      case measure => simp [intOf]; omega
    · go_wp2
      go_ret
      exact ⟨rfl, hq⟩

set_option maxRecDepth 100000 in
theorem szFamily_any (h : Int) (a : Option Addr) (zss : List (List Int)) (c : Nat) (left : Int) (w : World) (hr : Rows2 w a zss) (h0 : 0 ≤ left) (h1 : left ≤ 1048576) (hl : zss.length ≤ 9223372036854775807) (hll : ∀ r, r < zss.length → (nthL zss r).length ≤ 9223372036854775807) :
    Calls Tryd.prog 8 #[.agg #[.int .i64 h, .slice a zss.length c], .int .i64 left] w fun e w' => GivesInt (RoomFor left (Small2 zss)) e ∧ Below w.heap.size w w' := by
  have HL := Lib.hid hll
  clear hll
  go_enter Tryd.func8, Tryd.ntmps8
  go_wp2_with fail
  refine (szInt64SS_any a zss c left _ (hr.below ((Below.refl _ _).alloc (Nat.le_refl _) _) (Nat.le_refl _)) h0 h1 hl HL.out).mono ?_
  rintro e w1 ⟨⟨u, hu, rfl⟩, rfl⟩
  have hb := (Below.refl w.heap.size w).alloc (Nat.le_refl _) (.cells #[.int .i64 h, .slice a zss.length c] 24)
  rcases hu with rfl | ⟨hu0, hu1, hu2⟩
  · go_wp2
    go_ret
    exact ⟨⟨_, .inl rfl, rfl⟩, hb⟩
  · have H2 := Lib.hid hu2
    clear hu2
    go_wp2
    go_ret
    exact ⟨⟨_, .inr ⟨hu0, hu1, H2.out⟩, rfl⟩, hb⟩

set_option maxRecDepth 100000 in
/-- A family that a copy has made: the groups' block is at G. -/
theorem toFamily_any (h : Int) (a : Option Addr) (zss : List (List Int)) (c : Nat) (w : World) (hr : Rows2 w a zss) (hs : Small2 zss) :
    Calls Tryd.prog 10 #[.agg #[.int .i64 h, .slice a zss.length c]] w fun e w' => e = .returned (.agg #[.int .i64 h, .slice (some ⟨w.heap.size + 3, 0, none⟩) zss.length zss.length]) ∧
      w'.heap.size = w.heap.size + 4 + zss.length ∧ Own2 w' (w.heap.size + 3) zss ∧ Below w.heap.size w w' := by
  have HS := Lib.hid hs
  have HR := Lib.hid hr
  clear hs hr
  go_enter Tryd.func10, Tryd.ntmps10
  go_wp2_with fail
  refine (toInt64SS_any a zss c _ (HR.out.below ?_ (Nat.le_refl _)) HS.out.1 HS.out.2).mono ?_
  · exact (((Below.refl _ _).alloc (Nat.le_refl _) _).alloc (by simp) _).alloc (by simp; omega) _
  rintro e w1 ⟨rfl, hsz, hown, hbel⟩
  obtain ⟨hc, hf⟩ := bcell hbel
  simp only [World.size_alloc] at hsz hown hbel hc hf
  have HZ := Lib.hid hsz
  have HO := Lib.hid hown
  have HB := Lib.hid hbel
  clear hsz hown hbel
  go_wp2
  have hb1 : Below w.heap.size w w1 := ((((Below.refl w.heap.size w).alloc (Nat.le_refl _) _).alloc (by simp) _).alloc (by simp; omega) _).trans (HB.out.mono (by omega))
  refine bodyPost_ret (v := .agg #[.int .i64 h, .slice (some ⟨w.heap.size + 3, 0, none⟩) zss.length zss.length]) (by simp [results, Tryd.results10, go_sem, hc]) rfl ⟨rfl, ?_, ?_, ?_⟩
  · simp only [World.size_setCell]; rw [HZ.out]
  · exact ((HO.out.setCell (by simp) _).setCell (by simp) _).setCell (by simp) _
  · go_grown

set_option maxRecDepth 100000 in
/-- 'eqFamily' at one family twice: true. -/
theorem eqFamily_same (h : Int) (a b : Option Addr) (xs : List (List Int)) (ca cb : Nat) (w : World) (ha : Rows2 w a xs) (hb : Rows2 w b xs) (hl : xs.length ≤ 9223372036854775807) (hll : ∀ r, r < xs.length → (nthL xs r).length ≤ 9223372036854775807) :
    Calls Tryd.prog 13 #[.agg #[.int .i64 h, .slice a xs.length ca], .agg #[.int .i64 h, .slice b xs.length cb]] w fun e w' => e = .returned (.bool true) ∧ Below w.heap.size w w' := by
  have HL := Lib.hid hll
  have HA := Lib.hid ha
  have HB := Lib.hid hb
  clear hll ha hb
  go_enter Tryd.func13, Tryd.ntmps13
  go_wp2_with fail
  have hb1 := ((Below.refl w.heap.size w).alloc (Nat.le_refl _) (.cells #[.int .i64 h, .slice a xs.length ca] 29)).alloc (by simp) (.cells #[.int .i64 h, .slice b xs.length cb] 29)
  refine (eqInt64SS_same a b xs ca cb _ (HA.out.below hb1 (Nat.le_refl _)) (HB.out.below hb1 (Nat.le_refl _)) hl HL.out).mono ?_
  rintro e w1 ⟨rfl, hq⟩
  have hb2 := hb1.trans ((quiet_below hq).mono (by simp; omega))
  clear hq hb1
  go_wp2
  go_ret
  exact ⟨rfl, hb2⟩
end Go.Proofs.YtnebkhelobpkpaaDoor

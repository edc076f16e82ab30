/- EitherFamily and BothFamilies, the model's: l01Pair. -/
import Derived.Test.YtnalbonnjcphkaaDoorTbl
import Derived.Test.YtnalbonnjcphkaaDoorTw2
import Derived.Test.YtnalbonnjcphkaaDoorFw
namespace Go.Proofs.YtnalbonnjcphkaaDoor
open Go.RowKit Go.Deep Go.Shelf
set_option linter.unusedVariables false

/-- What opens both, or one of two. -/
def pairB (both : Bool) (z1 z2 : List (List Int)) (x : Nat) : Bool := cond both (tblAt z1 z1.length x && tblAt z2 z2.length x) (tblAt z1 z1.length x || tblAt z2 z2.length x)
theorem pairB_at {both : Bool} {z1 z2 : List (List Int)} {x : Nat} {p q : Bool} (hp : tblAt z1 z1.length x = p) (hq : tblAt z2 z2.length x = q) : pairB both z1 z2 x = cond both (p && q) (p || q) := by rw [pairB, hp, hq]
noncomputable def pairOf (both : Bool) (h1 : Int) (z1 : List (List Int)) (h2 : Int) (z2 : List (List Int)) : FR :=
  if tell (FamOk h1 z1 ∧ FamOk h2 z2) = true then (if h1 = h2 then ⟨h1, famOf h1.toNat (pairB both z1 z2), 0⟩ else noFam 2) else noFam 1
theorem pairOf_yes {both : Bool} {m : Nat} {z1 z2 : List (List Int)} (k1 : FamOk (m : Int) z1) (k2 : FamOk (m : Int) z2) : pairOf both (m : Int) z1 (m : Int) z2 = ⟨(m : Nat), famOf m (pairB both z1 z2), 0⟩ := by rw [pairOf, if_pos (tell_true ⟨k1, k2⟩), if_pos rfl, Int.toNat_natCast]
theorem pairOf_range {both : Bool} {h1 h2 : Int} {z1 z2 : List (List Int)} (k1 : FamOk h1 z1) (k2 : FamOk h2 z2) (hne : h1 ≠ h2) : pairOf both h1 z1 h2 z2 = noFam 2 := by rw [pairOf, if_pos (tell_true ⟨k1, k2⟩), if_neg hne]
theorem pairOf_bad {both : Bool} {h1 h2 : Int} {z1 z2 : List (List Int)} (k : ¬ (FamOk h1 z1 ∧ FamOk h2 z2)) : pairOf both h1 z1 h2 z2 = noFam 1 := by rw [pairOf, if_neg (by rw [tell_false k]; simp)]
theorem pair_small (both : Bool) (h1 : Int) (z1 : List (List Int)) (h2 : Int) (z2 : List (List Int)) : Small2 (pairOf both h1 z1 h2 z2).zss := by
  unfold pairOf
  split
  · rename_i k
    have := (of_tell k).1.1
    split
    · exact famOf_small (by omega) _
    · exact lens_small (by simp [noFam]) (by simp [noFam])
  · exact lens_small (by simp [noFam]) (by simp [noFam])

set_option maxHeartbeats 4000000 in
set_option maxRecDepth 100000 in
theorem l01Pair_any (both : Bool) (f1 f2 : Nat) (h1 : Int) (a1 : Option Addr) (z1 : List (List Int)) (c1 : Nat) (h2 : Int) (a2 : Option Addr) (z2 : List (List Int)) (c2 : Nat) (w : World)
    (hx1 : FamBox w f1 h1 a1 z1.length c1) (hr1 : Rows2 w a1 z1) (hl1 : Lens z1) (hx2 : FamBox w f2 h2 a2 z2.length c2) (hr2 : Rows2 w a2 z2) (hl2 : Lens z2) :
    Calls Tryd.prog 31 #[.pointer (some ⟨f1, 0, none⟩), .pointer (some ⟨f2, 0, none⟩), .bool both] w (GivesFC w (pairOf both h1 z1 h2 z2)) := by
  have hB0 := (Below.refl w.heap.size w).alloc (Nat.le_refl _) (.cells #[.int .i64 0, .slice none 0 0] 26)
  have hF0 : Boxes1 (w.alloc (.cells #[.int .i64 0, .slice none 0 0] 26)) w.heap.size := World.alloc_heap_new w _
  have X1 := Lib.hid (hx1.below hB0 (Nat.le_refl _))
  have X2 := Lib.hid (hx2.below hB0 (Nat.le_refl _))
  have A1 := Lib.hid (hr1.step hB0)
  have A2 := Lib.hid (hr2.step hB0)
  have L1 := Lib.hid hl1
  have L2 := Lib.hid hl2
  have HB := Lib.hid hB0
  have HF := Lib.hid hF0
  clear hx1 hx2 hr1 hr2 hl1 hl2 hB0 hF0
  by_cases k1 : FamOk h1 z1
  case neg =>
    have HT := Lib.hid (tell_false k1)
    have HV := Lib.hid (pairOf_bad (both := both) (h2 := h2) (z2 := z2) (fun k => k1 k.1))
    clear k1
    go_enter Tryd.func31, Tryd.ntmps31
    go_wp2_with fail
    generalize w.alloc (.cells #[.int .i64 0, .slice none 0 0] 26) = w1 at *
    refine (l01Ok_any f1 h1 a1 z1 c1 w1 X1.out A1.out L1.out).mono ?_
    rintro e w2 ⟨rfl, hq⟩
    rw [HT.out]
    have hf' := HF.out.step (quiet_below hq)
    have c0 := hf'.c0
    have c1 := hf'.c1
    have g0 := hf'.f 0
    have g1 := hf'.f 1
    have HB2 := Lib.hid (chain HB.out (quiet_below hq))
    clear hq hf'
    go_wp2_with fail
    refine bodyPost_ret (v := .tuple #[.agg #[.int .i64 0, .slice none 0 0], .int .i64 1]) (by simp [results, Tryd.results31, go_sem, c0, c1]) rfl ?_
    rw [HV.out]
    exact GivesFC.no _ ((HB2.out.setCell (by simp <;> omega) _).setCell (by simp <;> omega) _)
  have T1 := Lib.hid (tell_true k1)
  by_cases k2 : FamOk h2 z2
  case neg =>
    have HT := Lib.hid (tell_false k2)
    have HV := Lib.hid (pairOf_bad (both := both) (h1 := h1) (z1 := z1) (fun k => k2 k.2))
    clear k1 k2
    go_enter Tryd.func31, Tryd.ntmps31
    go_wp2_with fail
    generalize w.alloc (.cells #[.int .i64 0, .slice none 0 0] 26) = w1 at *
    refine (l01Ok_any f1 h1 a1 z1 c1 w1 X1.out A1.out L1.out).mono ?_
    rintro e w2 ⟨rfl, hq⟩
    rw [T1.out]
    have HF2 := Lib.hid (HF.out.step (quiet_below hq))
    have HB2 := Lib.hid (chain HB.out (quiet_below hq))
    have X3 := Lib.hid (X2.out.below (quiet_below hq) (Nat.le_refl _))
    have A3 := Lib.hid (A2.out.step (quiet_below hq))
    clear hq
    go_wp2_with fail
    refine (l01Ok_any f2 h2 a2 z2 c2 w2 X3.out A3.out L2.out).mono ?_
    rintro e w3 ⟨rfl, hq⟩
    rw [HT.out]
    have hf' := HF2.out.step (quiet_below hq)
    have c0 := hf'.c0
    have c1 := hf'.c1
    have g0 := hf'.f 0
    have g1 := hf'.f 1
    have HB3 := Lib.hid (chain HB2.out (quiet_below hq))
    clear hq hf'
    go_wp2_with fail
    refine bodyPost_ret (v := .tuple #[.agg #[.int .i64 0, .slice none 0 0], .int .i64 1]) (by simp [results, Tryd.results31, go_sem, c0, c1]) rfl ?_
    rw [HV.out]
    exact GivesFC.no _ ((HB3.out.setCell (by simp <;> omega) _).setCell (by simp <;> omega) _)
  have T2 := Lib.hid (tell_true k2)
  have K1 := Lib.hid k1
  have K2 := Lib.hid k2
  by_cases heq : h1 = h2
  case neg =>
    have hne : (h1 != h2) = true := by simp [heq]
    have HV := Lib.hid (pairOf_range (both := both) k1 k2 heq)
    clear k1 k2 heq
    go_enter Tryd.func31, Tryd.ntmps31
    go_wp2_with fail
    generalize w.alloc (.cells #[.int .i64 0, .slice none 0 0] 26) = w1 at *
    refine (l01Ok_any f1 h1 a1 z1 c1 w1 X1.out A1.out L1.out).mono ?_
    rintro e w2 ⟨rfl, hq⟩
    rw [T1.out]
    have HF2 := Lib.hid (HF.out.step (quiet_below hq))
    have HB2 := Lib.hid (chain HB.out (quiet_below hq))
    have X3 := Lib.hid (X1.out.below (quiet_below hq) (Nat.le_refl _))
    have X4 := Lib.hid (X2.out.below (quiet_below hq) (Nat.le_refl _))
    have A3 := Lib.hid (A2.out.step (quiet_below hq))
    clear hq
    go_wp2_with fail
    refine (l01Ok_any f2 h2 a2 z2 c2 w2 X4.out A3.out L2.out).mono ?_
    rintro e w3 ⟨rfl, hq⟩
    rw [T2.out]
    have hf' := HF2.out.step (quiet_below hq)
    have c0 := hf'.c0
    have c1 := hf'.c1
    have g0 := hf'.f 0
    have g1 := hf'.f 1
    have p0 := (X3.out.below (quiet_below hq) (Nat.le_refl _)).1
    have q0 := (X4.out.below (quiet_below hq) (Nat.le_refl _)).1
    have HB3 := Lib.hid (chain HB2.out (quiet_below hq))
    clear hq hf'
    go_wp2
    go_quiet (fail)
    go_wp2
    refine bodyPost_ret (v := .tuple #[.agg #[.int .i64 0, .slice none 0 0], .int .i64 2]) (by simp [results, Tryd.results31, go_sem, c0, c1]) rfl ?_
    rw [HV.out]
    exact GivesFC.no _ (((below_drewN HB3.out _).setCell (by simp <;> omega) _).setCell (by simp <;> omega) _)
  subst heq
  have hh1 : 1 ≤ h1 := k1.1.1
  have hh7 : h1 ≤ 7 := k1.1.2
  obtain ⟨m, rfl⟩ : ∃ m : Nat, h1 = (m : Int) := ⟨h1.toNat, by omega⟩
  have m1 : 1 ≤ m := by omega
  have m7 : m ≤ 7 := by omega
  have HV := Lib.hid (pairOf_yes (both := both) k1 k2)
  obtain ⟨n, hn⟩ : ∃ n, n = 2 ^ m := ⟨_, rfl⟩
  have hn128 : n ≤ 128 := by rw [hn]; exact Nat.pow_le_pow_right (by decide) m7
  have hn1 : 1 ≤ n := by rw [hn]; exact Nat.one_le_two_pow
  have HN := Lib.hid hn
  have hne : ((m : Int) != (m : Int)) = false := by simp
  obtain ⟨i0, hi, hz0, hz1, hz2⟩ := info_parts Tryd.infoBool
  clear k1 k2 hn
  go_enter Tryd.func31, Tryd.ntmps31
  go_wp2_with fail
  generalize w.alloc (.cells #[.int .i64 0, .slice none 0 0] 26) = w1 at *
  refine (l01Ok_any f1 m a1 z1 c1 w1 X1.out A1.out L1.out).mono ?_
  rintro e w2 ⟨rfl, hq⟩
  rw [T1.out]
  have HF2 := Lib.hid (HF.out.step (quiet_below hq))
  have HB2 := Lib.hid (chain HB.out (quiet_below hq))
  have X3 := Lib.hid (X1.out.below (quiet_below hq) (Nat.le_refl _))
  have X4 := Lib.hid (X2.out.below (quiet_below hq) (Nat.le_refl _))
  have A3 := Lib.hid (A1.out.step (quiet_below hq))
  have A4 := Lib.hid (A2.out.step (quiet_below hq))
  clear hq X1 X2 A1 A2 HF HB
  go_wp2_with fail
  refine (l01Ok_any f2 m a2 z2 c2 w2 X4.out A4.out L2.out).mono ?_
  rintro e w3 ⟨rfl, hq⟩
  rw [T2.out]
  have hdq := quiet_below hq
  have HF3 := Lib.hid (HF2.out.step hdq)
  have HB3 := Lib.hid (chain HB2.out hdq)
  have X5 := Lib.hid (X3.out.below hdq (Nat.le_refl _))
  have X6 := Lib.hid (X4.out.below hdq (Nat.le_refl _))
  have A5 := Lib.hid (A3.out.step hdq)
  have A6 := Lib.hid (A4.out.step hdq)
  have p0 := X5.out.1
  have q0 := X6.out.1
  clear hq hdq X3 X4 A3 A4 HF2 HB2
  go_wp2
  go_quiet (fail)
  rename_i nq
  clear p0 q0
  have hdN : Below w3.heap.size w3 (w3.drewN nq) := below_drewN (Below.refl _ _) nq
  have HF4 := Lib.hid (HF3.out.step hdN)
  have HB4 := Lib.hid (chain HB3.out hdN)
  have X7 := Lib.hid (X5.out.below hdN (Nat.le_refl _))
  have X8 := Lib.hid (X6.out.below hdN (Nat.le_refl _))
  have A7 := Lib.hid (A5.out.step hdN)
  have A8 := Lib.hid (A6.out.step hdN)
  clear hdN X5 X6 A5 A6 HF3 HB3
  generalize w3.drewN nq = W4 at *
  go_wp2_with fail
  refine (l01Table_any m n f1 a1 z1 c1 W4 m1 m7 HN.out X7.out A7.out L1.out (fun i hi => (K1.out.2.1 i hi).1)).mono ?_
  rintro e W5 ⟨rfl, hbo, hb⟩
  have HF5 := Lib.hid (HF4.out.step hb)
  have HB5 := Lib.hid (chain HB4.out hb)
  have Y7 := Lib.hid (X7.out.below hb (Nat.le_refl _))
  have Y8 := Lib.hid (X8.out.below hb (Nat.le_refl _))
  have B8 := Lib.hid (A8.out.step hb)
  have O1 := Lib.hid hbo
  clear hbo hb X7 X8 A7 A8 HF4 HB4
  generalize W4.heap.size = t1 at *
  go_wp2_with fail
  refine (l01Table_any m n f2 a2 z2 c2 W5 m1 m7 HN.out Y8.out B8.out L2.out (fun i hi => (K2.out.2.1 i hi).1)).mono ?_
  rintro e W6 ⟨rfl, hbo, hb⟩
  have HF6 := Lib.hid (HF5.out.step hb)
  have HB6 := Lib.hid (chain HB5.out hb)
  have Y9 := Lib.hid (Y7.out.below hb (Nat.le_refl _))
  have O3 := Lib.hid (O1.out.step hb)
  have O2 := Lib.hid hbo
  clear hbo hb Y7 Y8 B8 HF5 HB5 O1
  generalize W5.heap.size = t2 at *
  go_wp2_with fail
  have hR0 : (W6.alloc (.cells #[] 4)).ownsRow W6.heap.size 4 1 (.slice (some ⟨W6.heap.size, 0, none⟩) 0 0) 0 [] := by
    have := World.ownsRow_made W6 #[] 0 (e := 4) (size := 1) (Nat.le_refl _) (by unfold maxLen; omega) rfl
    simpa using this
  have hB3 := (Below.refl W6.heap.size W6).alloc (Nat.le_refl _) (.cells #[] 4)
  generalize W6.alloc (.cells #[] 4) = w7 at *
  go_loopw [10, 11] (fun v i wr => ∃ (k g cap : Nat), k ≤ n ∧ i = .int .i64 k ∧ v = .slice (some ⟨g, 0, none⟩) k cap ∧ wr.ownsRow W6.heap.size 4 1 (.slice (some ⟨g, 0, none⟩) k cap) k (bools (pairB both z1 z2) k) ∧ Below W6.heap.size W6 wr)
    (fun _ i _ => n - (intOf i).toNat)
  case atStart => exact ⟨0, _, _, by omega, rfl, rfl, hR0, hB3⟩
  case round =>
    obtain ⟨k, g, cap, hk, rfl, rfl, hrow, hbel⟩ := hrel
    clear hR0 hB3
    have HR := Lib.hid hrow
    have HW := Lib.hid hbel
    have hszr := hbel.size
    by_cases hlt : k < n
    · have hki : (k : Int) < (n : Int) := by omega
      obtain ⟨b3, o3, he, hc3⟩ := O3.out.step hbel
      cases he
      obtain ⟨b2, o2, he, hc2⟩ := O2.out.step hbel
      cases he
      have hcell1 : wr.cell? ⟨t1, k, none⟩ = some (.bool (tblAt z1 z1.length k)) := by simpa using hc3 k hlt
      have hcell2 : wr.cell? ⟨t2, k, none⟩ = some (.bool (tblAt z2 z2.length k)) := by simpa using hc2 k hlt
      obtain ⟨p, hp⟩ : ∃ p, tblAt z1 z1.length k = p := ⟨_, rfl⟩
      obtain ⟨q, hq⟩ : ∃ q, tblAt z2 z2.length k = q := ⟨_, rfl⟩
      have HV1 := Lib.hid (pairB_at (both := both) hp hq)
      rw [hp] at hcell1
      rw [hq] at hcell2
      clear hc2 hc3 hrow hbel hp hq
      cases both <;> cases p <;> cases q
      all_goals
        go_wp2_with (at_builtin; refine wpList_append_own _ rfl _ _ 65 rfl W6.heap.size 4 i0 (.bool false) 1 1 Tryd.underlying65 hi hz0 hz1 hz2 rfl (by decide) _ _ _ rfl (World.ownsRow.alloc HR.out _) ⟨wr.heap.size, 0, none⟩ 1 1 [_] rfl rfl (cell_one_new _ _ _) (by simp [Value.oneCell']) (by unfold maxLen; omega) (by omega) (by simp; omega) ?_; intro v' w1 hown2 hgrow2 _; obtain ⟨g', cap', rfl⟩ := ownsRow_succ hown2; have HO2 := Lib.hid hown2; have HG2 := Lib.hid hgrow2; clear hown2 hgrow2)
        go_roundw
        case rel =>
          refine ⟨k + 1, g', cap', by omega, by go_num, rfl, ?_, ?_⟩
          · rw [bools_succ, HV1.out]; exact HO2.out
          · exact (HW.out.alloc hszr _).grown HG2.out (by simp; omega) (fun q hq => by have := (HR.out.lt q hq).1; omega)
        case measure => simp [intOf]; omega
    · have HK := Lib.hid (show k = n by omega)
      have ht : Bools wr (some ⟨g, 0, none⟩) k (pairB both z1 z2) := Bools.of_row HR.out
      rw [HK.out] at ht
      have HT := Lib.hid ht
      have HF7 := Lib.hid (HF6.out.step hbel)
      have HB7 := Lib.hid (chain HB6.out hbel)
      have p0 := (hbel.cell (p := ⟨f1, 0, none⟩) (World.block_lt_of_cell? _ _ Y9.out.1)).trans Y9.out.1
      clear ht hrow hbel
      go_wp2_with fail
      rw [HK.out]
      refine (l01From_any m n cap _ (pairB both z1 z2) wr m1 m7 HN.out HT.out).mono ?_
      rintro e w' ⟨⟨a9, c9, rfl, hrows, hlens⟩, hb⟩
      have hszw := HF7.out.lt
      have hf' := HF7.out.step hb
      have c0 := hf'.c0
      have c1 := hf'.c1
      have g0 := hf'.f 0
      have g1 := hf'.f 1
      have HRR := Lib.hid hrows
      have HB8 := Lib.hid (chain HB7.out hb)
      clear hrows hlens hb hf'
      go_wp2_with fail
      refine bodyPost_ret (v := .tuple #[.agg #[.int .i64 (m : Nat), .slice a9 (famOf m (pairB both z1 z2)).length c9], .int .i64 0]) (by simp [results, Tryd.results31, go_sem, c0, c1]) rfl ?_
      rw [HV.out]
      exact ⟨⟨a9, c9, rfl, ((HRR.out.set hszw 0 _).set hszw 1 _).mono (Nat.le_of_lt hszw)⟩, (HB8.out.setCell (by simp <;> omega) _).setCell (by simp <;> omega) _⟩
end Go.Proofs.YtnalbonnjcphkaaDoor

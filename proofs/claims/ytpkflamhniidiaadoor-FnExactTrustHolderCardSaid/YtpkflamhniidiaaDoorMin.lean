/- The model's l01Minor. -/
import Derived.Test.YtpkflamhniidiaaDoorDual
import Derived.Test.YtpkflamhniidiaaDoorFwC
namespace Go.Proofs.YtpkflamhniidiaaDoor
open Go.RowKit Go.Deep Go.Shelf
set_option linter.unusedVariables false

def lowN (k x : Nat) : Nat := x &&& (2 ^ k - 1)
def highN (k x : Nat) : Nat := x - lowN k x
/-- The group with room for a holder. -/
def wideN (k x : Nat) : Nat := lowN k x ||| (highN k x * 2)
def minN (tr : Bool) (k x : Nat) : Nat := if tr = true then wideN k x ||| 2 ^ k else wideN k x
theorem mask_i : ∀ n : Nat, n < 7 → wrap64 (wrap64 ((2 : Int) ^ n) - 1) = ((2 ^ n - 1 : Nat) : Int) := by decide +kernel
theorem min_f1 : ∀ k : Nat, k < 7 → ∀ x : Nat, x < 64 → bits BinOp.and IntKind.i64 (x : Int) ((2 ^ k - 1 : Nat) : Int) = (lowN k x : Nat) := by decide +kernel
theorem min_f2 : ∀ k : Nat, k < 7 → ∀ x : Nat, x < 64 → bits BinOp.andNot IntKind.i64 (x : Int) ((2 ^ k - 1 : Nat) : Int) = (highN k x : Nat) := by decide +kernel
theorem min_f3 : ∀ k : Nat, k < 7 → ∀ x : Nat, x < 64 → bits BinOp.or IntKind.i64 ((lowN k x : Nat) : Int) (((highN k x : Nat) : Int) * 2) = (wideN k x : Nat) := by decide +kernel
theorem min_f4 : ∀ k : Nat, k < 7 → ∀ x : Nat, x < 64 → bits BinOp.or IntKind.i64 ((wideN k x : Nat) : Int) (wrap64 ((2 : Int) ^ k)) = (wideN k x ||| 2 ^ k : Nat) := by decide +kernel
theorem high_lt : ∀ k : Nat, k < 7 → ∀ x : Nat, x < 64 → highN k x < 64 := by decide +kernel
theorem wide_lt : ∀ m : Nat, m ≤ 7 → ∀ k : Nat, k < m → ∀ x : Nat, x < 64 → x < 2 ^ (m - 1) → wideN k x < 2 ^ m := by decide +kernel
theorem minN_lt {m k x : Nat} (tr : Bool) (hm : m ≤ 7) (hk : k < m) (hx : x < 2 ^ (m - 1)) : minN tr k x < 2 ^ m := by
  have h64 : x < 64 := Nat.lt_of_lt_of_le hx (Nat.pow_le_pow_right (by decide) (by omega) : 2 ^ (m - 1) ≤ 2 ^ 6)
  have h1 := wide_lt m hm k hk x h64 hx
  unfold minN
  split
  · exact Nat.or_lt_two_pow h1 (Nat.pow_lt_pow_right (by omega) hk)
  · exact h1
def minB (tr : Bool) (k : Nat) (zss : List (List Int)) (x : Nat) : Bool := tblAt zss zss.length (minN tr k x)
noncomputable def minOf (tr : Bool) (h : Int) (zss : List (List Int)) (k : Int) : FR :=
  if tell (FamOk h zss) = true then (if 0 ≤ k ∧ k < h then (if h = 1 then noFam 4 else ⟨h - 1, famOf (h.toNat - 1) (minB tr k.toNat zss), 0⟩) else noFam 2) else noFam 1
theorem min_small (tr : Bool) (h : Int) (zss : List (List Int)) (k : Int) : Small2 (minOf tr h zss k).zss := by
  have hn : ∀ c, Small2 (noFam c).zss := fun c => lens_small (by simp [noFam]) (by simp [noFam])
  unfold minOf
  split
  · rename_i q
    have := (of_tell q).1
    split
    · split
      · exact hn _
      · exact famOf_small (by omega) _
    · exact hn _
  · exact hn _
theorem min_bad {tr : Bool} {h : Int} {zss : List (List Int)} {k : Int} (q : ¬ FamOk h zss) : minOf tr h zss k = noFam 1 := by rw [minOf, if_neg (by rw [tell_false q]; simp)]
theorem min_out {tr : Bool} {h : Int} {zss : List (List Int)} {k : Int} (q : FamOk h zss) (r : ¬ (0 ≤ k ∧ k < h)) : minOf tr h zss k = noFam 2 := by rw [minOf, if_pos (tell_true q), if_neg r]
theorem min_one {tr : Bool} {h : Int} {zss : List (List Int)} {k : Int} (q : FamOk h zss) (r : 0 ≤ k ∧ k < h) (o : h = 1) : minOf tr h zss k = noFam 4 := by rw [minOf, if_pos (tell_true q), if_pos r, if_pos o]
theorem min_in {tr : Bool} {m j : Nat} {zss : List (List Int)} (q : FamOk (m : Int) zss) (r : j < m) (o : m ≠ 1) : minOf tr (m : Int) zss (j : Int) = ⟨(m : Int) - 1, famOf (m - 1) (minB tr j zss), 0⟩ := by
  rw [minOf, if_pos (tell_true q), if_pos ⟨by omega, by omega⟩, if_neg (by omega), Int.toNat_natCast, Int.toNat_natCast]


set_option maxHeartbeats 2000000 in
set_option maxRecDepth 100000 in
theorem l01Minor_any (tr : Bool) (h : Int) (fb : Nat) (a : Option Addr) (zss : List (List Int)) (c : Nat) (k : Int) (w : World) (hbox : FamBox w fb h a zss.length c) (hr : Rows2 w a zss) (hl : Lens zss) (wf : (Lit.int .i64 k).wf = true) :
    Calls Tryd.prog 92 #[.pointer (some ⟨fb, 0, none⟩), .int .i64 k, .bool tr] w (GivesFC w (minOf tr h zss k)) := by
  have hB0 := (Below.refl w.heap.size w).alloc (Nat.le_refl _) (.cells #[.int .i64 0, .slice none 0 0] 27)
  have hF0 : Boxes1 (w.alloc (.cells #[.int .i64 0, .slice none 0 0] 27)) w.heap.size := World.alloc_heap_new w _
  have HX := Lib.hid (hbox.below hB0 (Nat.le_refl _))
  have HA := Lib.hid (hr.step hB0)
  have HL := Lib.hid hl
  have HB := Lib.hid hB0
  have HF := Lib.hid hF0
  clear hbox hr hl hB0 hF0
  cases hf : tell (FamOk h zss) with
  | false =>
    have HT := Lib.hid hf
    have HV := Lib.hid (min_bad (tr := tr) (k := k) (of_tell_false hf))
    clear hf
    go_enter Tryd.func92, Tryd.ntmps92
    go_wp2_with fail
    generalize w.alloc (.cells #[.int .i64 0, .slice none 0 0] 27) = w1 at *
    refine (l01Ok_any fb h a zss c w1 HX.out HA.out HL.out).mono ?_
    rintro e w2 ⟨rfl, hq⟩
    have hf' := HF.out.step (quiet_below hq)
    have c0 := hf'.c0
    have c1 := hf'.c1
    have f0 := hf'.f 0
    have f1 := hf'.f 1
    have HB2 := Lib.hid (chain HB.out (quiet_below hq))
    clear hq hf'
    rw [HT.out]
    go_wp2_with fail
    refine bodyPost_ret (v := .tuple #[.agg #[.int .i64 0, .slice none 0 0], .int .i64 1]) (by simp [results, Tryd.results92, go_sem, c0, c1]) rfl ?_
    rw [HV.out]
    exact GivesFC.no _ ((HB2.out.setCell (by simp) _).setCell (by simp) _)
  | true =>
    have HFO := Lib.hid (of_tell hf)
    have HT := Lib.hid hf
    have hh1 : 1 ≤ h := HFO.out.1.1
    have hh7 : h ≤ 7 := HFO.out.1.2
    clear hf
    obtain ⟨m, rfl⟩ : ∃ m : Nat, h = (m : Int) := ⟨h.toNat, by omega⟩
    have m1 : 1 ≤ m := by omega
    have m7 : m ≤ 7 := by omega
    by_cases hk : 0 ≤ k ∧ k < (m : Int)
    · have t1 := Lib.hid (show (decide ((0 : Int) ≤ k) && decide (k ≤ (m : Int) - 1)) = true by simp; omega)
      obtain ⟨j, rfl⟩ : ∃ j : Nat, k = (j : Int) := ⟨k.toNat, by omega⟩
      have hjm : j < m := by omega
      clear hk
      by_cases h1 : m = 1
      · have HV := Lib.hid (min_one (tr := tr) (k := (j : Int)) HFO.out ⟨by omega, by omega⟩ (by omega))
        subst h1
        have t0 := Lib.hid (show (decide ((0 : Int) ≤ (j : Int)) && decide ((j : Int) ≤ 0)) = true by simp; omega)
        go_enter Tryd.func92, Tryd.ntmps92
        go_wp2_with fail
        generalize w.alloc (.cells #[.int .i64 0, .slice none 0 0] 27) = w1 at *
        refine (l01Ok_any fb ((1 : Nat) : Int) a zss c w1 HX.out HA.out HL.out).mono ?_
        rintro e w2 ⟨rfl, hq⟩
        have hf' := HF.out.step (quiet_below hq)
        have c0 := hf'.c0
        have c1 := hf'.c1
        have f0 := hf'.f 0
        have f1 := hf'.f 1
        have p0 := (HX.out.quiet hq).1
        have HB2 := Lib.hid (chain HB.out (quiet_below hq))
        clear hq hf'
        rw [HT.out]
        go_wp2_with fail
        refine (l00In_val (j : Int) 0 0 true _ t0.out).mono ?_
        rintro e w' ⟨rfl, rfl⟩
        go_wp2_with fail
        refine bodyPost_ret (v := .tuple #[.agg #[.int .i64 0, .slice none 0 0], .int .i64 4]) (by simp [results, Tryd.results92, go_sem, c0, c1]) rfl ?_
        rw [HV.out]
        exact GivesFC.no _ ((HB2.out.setCell (by simp) _).setCell (by simp) _)
      · have HV := Lib.hid (min_in (tr := tr) HFO.out hjm h1)
        have hob : ((m : Int) == 1) = false := by simp; omega
        obtain ⟨n, hn⟩ : ∃ n, n = 2 ^ m := ⟨_, rfl⟩
        obtain ⟨n2, hn2⟩ : ∃ n2, n2 = 2 ^ (m - 1) := ⟨_, rfl⟩
        have h2 : n = 2 * n2 := by rw [hn, hn2, show m = (m - 1) + 1 by omega, Nat.pow_succ, Nat.add_sub_cancel]; omega
        have hn64 : n2 ≤ 64 := by rw [hn2]; exact Nat.pow_le_pow_right (by decide) (by omega : m - 1 ≤ 6)
        have HN := Lib.hid hn
        have HN2 := Lib.hid hn2
        have hdiv : (n : Int) / 2 = (n2 : Int) := by omega
        obtain ⟨i0, hi, hz0, hz1, hz2⟩ := info_parts Tryd.infoBool
        have hmsk := mask_i j (by omega)
        clear hn hn2
        have H2 := Lib.hid h2
        have HH1 := Lib.hid h1
        clear h2 h1
        go_enter Tryd.func92, Tryd.ntmps92
        go_wp2_with fail
        generalize w.alloc (.cells #[.int .i64 0, .slice none 0 0] 27) = w1 at *
        refine (l01Ok_any fb (m : Int) a zss c w1 HX.out HA.out HL.out).mono ?_
        rintro e w2 ⟨rfl, hq⟩
        have HX2 := Lib.hid (HX.out.quiet hq)
        have HA2 := Lib.hid (HA.out.quiet hq)
        have HF2 := Lib.hid (HF.out.step (quiet_below hq))
        have HB2 := Lib.hid (chain HB.out (quiet_below hq))
        have p0 := HX2.out.1
        clear hq
        rw [HT.out]
        go_wp2_with fail
        refine (l00In_val _ 0 _ true _ t1.out).mono ?_
        rintro e w' ⟨rfl, rfl⟩
        go_wp2_with fail
        refine (l01Table_any m n fb a zss c w2 m1 m7 HN.out HX2.out HA2.out HL.out (fun i hi => (HFO.out.2.1 i hi).1)).mono ?_
        rintro e w3 ⟨rfl, hbo, hb3⟩
        have hlt3 := HF2.out.lt
        have HF3 := Lib.hid (HF2.out.step hb3)
        have HX3 := Lib.hid (HX2.out.below hb3 (Nat.le_refl _))
        have HB3 := Lib.hid (chain HB2.out hb3)
        have HBO := Lib.hid hbo
        have hs3 := hb3.size
        clear hbo hb3 p0
        generalize w2.heap.size = tb at *
        go_wp2_with fail
        have hR0 : (w3.alloc (.cells #[] 4)).ownsRow w3.heap.size 4 1 (.slice (some ⟨w3.heap.size, 0, none⟩) 0 0) 0 [] := by
          have := World.ownsRow_made w3 #[] 0 (e := 4) (size := 1) (Nat.le_refl _) (by unfold maxLen; omega) rfl
          simpa using this
        have hB4 := (Below.refl w3.heap.size w3).alloc (Nat.le_refl _) (.cells #[] 4)
        generalize w3.alloc (.cells #[] 4) = w4 at *
        go_loopw [9, 10] (fun v i wr => ∃ (x g cap : Nat), x ≤ n2 ∧ i = .int .i64 x ∧ v = .slice (some ⟨g, 0, none⟩) x cap ∧ wr.ownsRow w3.heap.size 4 1 (.slice (some ⟨g, 0, none⟩) x cap) x (bools (minB tr j zss) x) ∧ Below w3.heap.size w3 wr)
          (fun _ i _ => n2 - (intOf i).toNat)
        case atStart => exact ⟨0, _, _, by omega, rfl, rfl, hR0, hB4⟩
        case round =>
          obtain ⟨x, g, cap, hx, rfl, rfl, hrow, hbel⟩ := hrel
          clear hR0 hB4
          have HR := Lib.hid hrow
          have HW := Lib.hid hbel
          have hszr := hbel.size
          by_cases hlt : x < n2
          · have hxi : (x : Int) < (n2 : Int) := by omega
            have hx64 : x < 64 := by omega
            obtain ⟨bb, oo, he, hc⟩ := HBO.out.step hbel
            cases he
            have hy : minN tr j x < n := by rw [HN.out]; exact minN_lt tr m7 hjm (by rw [← HN2.out]; exact hlt)
            have hcell : wr.cell? ⟨tb, minN tr j x, none⟩ = some (.bool (minB tr j zss x)) := by simpa [minB] using hc _ hy
            have g1 := min_f1 j (by omega) x hx64
            have g2 := min_f2 j (by omega) x hx64
            have g3 := min_f3 j (by omega) x hx64
            have g4 := min_f4 j (by omega) x hx64
            have g5 := high_lt j (by omega) x hx64
            have hyi : ((minN tr j x : Nat) : Int) < (n : Int) := by omega
            have HBS := Lib.hid (bools_succ (minB tr j zss) x)
            clear hc hrow hbel
            generalize 2 ^ j - 1 = M at *
            generalize lowN j x = lo at *
            generalize highN j x = hi' at *
            generalize minB tr j zss x = p at *
            cases tr with
            | false =>
              have he : minN false j x = wideN j x := by unfold minN; simp
              rw [he] at hcell hy hyi
              clear he g4
              generalize wideN j x = y at *
              go_wp2_with (at_builtin; refine wpList_append_own _ rfl _ _ 85 rfl w3.heap.size 4 i0 (.bool false) 1 1 Tryd.underlying85 hi hz0 hz1 hz2 rfl (by decide) _ _ _ rfl (World.ownsRow.alloc HR.out _) ⟨wr.heap.size, 0, none⟩ 1 1 [.bool p] rfl rfl (cell_one_new _ _ _) (by simp [Value.oneCell']) (by unfold maxLen; omega) (by omega) (by simp; omega) ?_; intro v' w1 hown2 hgrow2 _; obtain ⟨g', cap', rfl⟩ := ownsRow_succ hown2; have HO2 := Lib.hid hown2; have HG2 := Lib.hid hgrow2; clear hown2 hgrow2)
              go_roundw
              case rel =>
                refine ⟨x + 1, g', cap', by omega, by go_num, rfl, ?_, ?_⟩
                · rw [HBS.out]; exact HO2.out
                · exact (HW.out.alloc hszr _).grown HG2.out (by simp; omega) (fun q hq => by have := (HR.out.lt q hq).1; omega)
              case measure => simp [intOf]; omega
            | true =>
              have he : minN true j x = wideN j x ||| 2 ^ j := by unfold minN; simp
              rw [he] at hcell hy hyi
              clear he
              generalize wideN j x ||| 2 ^ j = y at *
              generalize wideN j x = yw at *
              go_wp2_with (at_builtin; refine wpList_append_own _ rfl _ _ 85 rfl w3.heap.size 4 i0 (.bool false) 1 1 Tryd.underlying85 hi hz0 hz1 hz2 rfl (by decide) _ _ _ rfl (World.ownsRow.alloc HR.out _) ⟨wr.heap.size, 0, none⟩ 1 1 [.bool p] rfl rfl (cell_one_new _ _ _) (by simp [Value.oneCell']) (by unfold maxLen; omega) (by omega) (by simp; omega) ?_; intro v' w1 hown2 hgrow2 _; obtain ⟨g', cap', rfl⟩ := ownsRow_succ hown2; have HO2 := Lib.hid hown2; have HG2 := Lib.hid hgrow2; clear hown2 hgrow2)
              go_roundw
              case rel =>
                refine ⟨x + 1, g', cap', by omega, by go_num, rfl, ?_, ?_⟩
                · rw [HBS.out]; exact HO2.out
                · exact (HW.out.alloc hszr _).grown HG2.out (by simp; omega) (fun q hq => by have := (HR.out.lt q hq).1; omega)
              case measure => simp [intOf]; omega
          · have HK := Lib.hid (show x = n2 by omega)
            have ht : Bools wr (some ⟨g, 0, none⟩) x (minB tr j zss) := Bools.of_row HR.out
            rw [HK.out] at ht
            have HTT := Lib.hid ht
            have HF4 := Lib.hid (HF3.out.step hbel)
            have HB5 := Lib.hid (chain HB3.out hbel)
            have p0 := (hbel.cell (p := ⟨fb, 0, none⟩) (World.block_lt_of_cell? _ _ HX3.out.1)).trans HX3.out.1
            obtain ⟨m', hm'⟩ : ∃ m' : Nat, (m : Int) - 1 = (m' : Int) := ⟨m - 1, by omega⟩
            have hmm : m' = m - 1 := by omega
            have HMM := Lib.hid hmm
            clear ht hrow hbel hmm
            go_wp2_with fail
            rw [HK.out]
            refine (l01From_any m' n2 cap _ (minB tr j zss) wr (by have := HMM.out; have := HH1.out; omega) (by have := HMM.out; omega) (by rw [HMM.out]; exact HN2.out) HTT.out).mono ?_
            rintro e w' ⟨⟨a2, c2, rfl, hrows, hlens⟩, hb⟩
            have hszw := HF4.out.lt
            have hf' := HF4.out.step hb
            have c0 := hf'.c0
            have c1 := hf'.c1
            have f0 := hf'.f 0
            have f1 := hf'.f 1
            have HRR := Lib.hid hrows
            have HB6 := Lib.hid (chain HB5.out hb)
            clear hrows hlens hb hf'
            go_wp2_with fail
            refine bodyPost_ret (v := .tuple #[.agg #[.int .i64 (m' : Nat), .slice a2 (famOf m' (minB tr j zss)).length c2], .int .i64 0]) (by simp [results, Tryd.results92, go_sem, c0, c1]) rfl ?_
            rw [HV.out, ← HMM.out, hm']
            exact ⟨⟨a2, c2, rfl, ((HRR.out.set hszw 0 _).set hszw 1 _).mono (Nat.le_of_lt hszw)⟩, (HB6.out.setCell (by simp) _).setCell (by simp) _⟩
    · have t1 := Lib.hid (show (decide ((0 : Int) ≤ k) && decide (k ≤ (m : Int) - 1)) = false by simp; omega)
      have HV := Lib.hid (min_out (tr := tr) HFO.out hk)
      clear hk
      go_enter Tryd.func92, Tryd.ntmps92
      go_wp2_with fail
      generalize w.alloc (.cells #[.int .i64 0, .slice none 0 0] 27) = w1 at *
      refine (l01Ok_any fb (m : Int) a zss c w1 HX.out HA.out HL.out).mono ?_
      rintro e w2 ⟨rfl, hq⟩
      have hf' := HF.out.step (quiet_below hq)
      have c0 := hf'.c0
      have c1 := hf'.c1
      have f0 := hf'.f 0
      have f1 := hf'.f 1
      have p0 := (HX.out.quiet hq).1
      have HB2 := Lib.hid (chain HB.out (quiet_below hq))
      clear hq hf'
      rw [HT.out]
      go_wp2_with fail
      refine (l00In_val _ 0 _ false _ t1.out).mono ?_
      rintro e w' ⟨rfl, rfl⟩
      go_wp2_with fail
      refine bodyPost_ret (v := .tuple #[.agg #[.int .i64 0, .slice none 0 0], .int .i64 2]) (by simp [results, Tryd.results92, go_sem, c0, c1]) rfl ?_
      rw [HV.out]
      exact GivesFC.no _ ((HB2.out.setCell (by simp) _).setCell (by simp) _)
end Go.Proofs.YtpkflamhniidiaaDoor

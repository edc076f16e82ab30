/- The model's family of a table: l01From. -/
import Derived.Test.YteifllengcacbaaDoorSort
namespace Go.Proofs.YteifllengcacbaaDoor
open Go.RowKit Go.Deep Go.Shelf
set_option linter.unusedVariables false

/-- A list of bools, up to its length. -/
def Bools (w : World) (a : Option Addr) (n : Nat) (p : Nat → Bool) : Prop := ∃ b o, a = some ⟨b, o, none⟩ ∧ ∀ i, i < n → w.cell? ⟨b, o + i, none⟩ = some (.bool (p i))
theorem Bools.step {w w' : World} {a : Option Addr} {n : Nat} {p : Nat → Bool} (h : Bools w a n p) (hb : Below w.heap.size w w') : Bools w' a n p := by
  obtain ⟨b, o, ha, hc⟩ := h
  exact ⟨b, o, ha, fun i hi => cell_step hb (hc i hi)⟩
theorem Bools.congr {w : World} {a : Option Addr} {n : Nat} {p q : Nat → Bool} (h : Bools w a n p) (e : ∀ i, i < n → p i = q i) : Bools w a n q := by
  obtain ⟨b, o, ha, hc⟩ := h
  exact ⟨b, o, ha, fun i hi => by rw [← e i hi]; exact hc i hi⟩

/-- Numbers in a block from base on. -/
def IntsF (w : World) (base : Nat) (a : Option Addr) (zs : List Int) : Prop :=
  zs = [] ∨ ∃ b o, base ≤ b ∧ a = some ⟨b, o, none⟩ ∧ ∀ i, i < zs.length → w.cell? ⟨b, o + i, none⟩ = some (.int .i64 (nth zs i))
/-- Rows in blocks from base on. -/
def RowsF (w : World) (base : Nat) (a : Option Addr) (zss : List (List Int)) : Prop :=
  zss = [] ∨ ∃ b o, base ≤ b ∧ a = some ⟨b, o, none⟩ ∧ ∀ i, i < zss.length → ∃ (ai : Option Addr) (ci : Nat), w.cell? ⟨b, o + i, none⟩ = some (.slice ai (nthL zss i).length ci) ∧ IntsF w base ai (nthL zss i)
theorem IntsF.ints {w : World} {base : Nat} {a : Option Addr} {zs : List Int} (h : IntsF w base a zs) : Ints w a zs := h.imp id fun ⟨b, o, _, ha, hc⟩ => ⟨b, o, ha, hc⟩
theorem RowsF.rows {w : World} {base : Nat} {a : Option Addr} {zss : List (List Int)} (h : RowsF w base a zss) : Rows2 w a zss :=
  h.imp id fun ⟨b, o, _, ha, hc⟩ => ⟨b, o, ha, fun i hi => let ⟨ai, ci, h1, h2⟩ := hc i hi; ⟨ai, ci, h1, h2.ints⟩⟩
theorem IntsF.keep {w w' : World} {base : Nat} {a : Option Addr} {zs : List Int} (h : IntsF w base a zs) (hk : ∀ b o v, base ≤ b → w.cell? ⟨b, o, none⟩ = some v → w'.cell? ⟨b, o, none⟩ = some v) : IntsF w' base a zs :=
  h.imp id fun ⟨b, o, hb, ha, hc⟩ => ⟨b, o, hb, ha, fun i hi => hk _ _ _ hb (hc i hi)⟩
theorem RowsF.keep {w w' : World} {base : Nat} {a : Option Addr} {zss : List (List Int)} (h : RowsF w base a zss) (hk : ∀ b o v, base ≤ b → w.cell? ⟨b, o, none⟩ = some v → w'.cell? ⟨b, o, none⟩ = some v) : RowsF w' base a zss :=
  h.imp id fun ⟨b, o, hb, ha, hc⟩ => ⟨b, o, hb, ha, fun i hi => let ⟨ai, ci, h1, h2⟩ := hc i hi; ⟨ai, ci, hk _ _ _ hb h1, h2.keep hk⟩⟩
theorem RowsF.step {w w' : World} {base : Nat} {a : Option Addr} {zss : List (List Int)} (h : RowsF w base a zss) (hb : Below w.heap.size w w') : RowsF w' base a zss := h.keep fun _ _ _ _ hc => cell_step hb hc
theorem RowsF.set {w : World} {base : Nat} {a : Option Addr} {zss : List (List Int)} (h : RowsF w base a zss) {q : Nat} (hq : q < base) (o : Nat) (v : Value) : RowsF (w.setCell ⟨q, o, none⟩ v) base a zss :=
  h.keep fun b o' u hb hc => (World.cell?_setCell_other _ _ _ _ (by simp only [ne_eq, Addr.mk.injEq, not_and]; omega)).trans hc
theorem RowsF.mono {w : World} {base base' : Nat} {a : Option Addr} {zss : List (List Int)} (h : RowsF w base a zss) (hb : base' ≤ base) : RowsF w base' a zss :=
  h.imp id fun ⟨b, o, h1, ha, hc⟩ => ⟨b, o, by omega, ha, fun i hi => let ⟨ai, ci, h2, h3⟩ := hc i hi; ⟨ai, ci, h2, h3.imp id fun ⟨b', o', h4, h5⟩ => ⟨b', o', by omega, h5⟩⟩⟩
theorem OwnI.intsF {w : World} {base : Nat} {v : Value} {zs : List Int} (h : OwnI w base v zs) : ∃ a c, v = .slice a zs.length c ∧ IntsF w base a zs := by
  rcases h.2 with ⟨hv, hn⟩ | ⟨g, cap, cur, hv, hb, hg, hnc, hcm, hcs, htake⟩
  · exact ⟨none, 0, by rw [hv, hn], .inl (List.eq_nil_of_length_eq_zero hn)⟩
  · subst hv
    refine ⟨_, _, rfl, .inr ⟨g, 0, hb, rfl, fun i hi => ?_⟩⟩
    rw [Nat.zero_add, World.ownsRow.cellAt h i (by omega)]
    simp [vals, hi, nth_lt hi]

/-- What gives a family that is only read. -/
structure GivesFamR (W : World) (h : Int) (zss : List (List Int)) (e : Ending) (w' : World) : Prop where
  val : ∃ a c, e = .returned (.agg #[.int .i64 h, .slice a zss.length c]) ∧ RowsF w' W.heap.size a zss ∧ Lens zss
  below : Below W.heap.size W w'

def partB (p : Nat → Bool) (x j : Nat) : Bool := p x && (List.range j).all fun i => !(x.testBit i && p (dropOne x i))
theorem partB_zero (p : Nat → Bool) (x : Nat) : partB p x 0 = p x := by simp [partB]
theorem partB_succ (p : Nat → Bool) (x j : Nat) : partB p x (j + 1) = (partB p x j && !(x.testBit j && p (dropOne x j))) := by
  simp only [partB, List.range_succ, List.all_append, List.all_cons, List.all_nil, Bool.and_true, Bool.and_assoc]
theorem partB_end (p : Nat → Bool) (x h : Nat) : partB p x h = leastB h p x := by unfold partB leastB; rw [Bool.and_comm]
theorem partB_false {p : Nat → Bool} {x j : Nat} (hf : partB p x j = false) : ∀ d, partB p x (j + d) = false
  | 0 => hf
  | d + 1 => by rw [show j + (d + 1) = (j + d) + 1 by omega, partB_succ, partB_false hf d]; rfl
theorem partB_least {p : Nat → Bool} {x j h : Nat} (hj : j ≤ h) (hf : partB p x j = false) : leastB h p x = false := by
  rw [← partB_end, show h = j + (h - j) by omega]; exact partB_false hf _

theorem drop_fact0 : ∀ x : Nat, x < 128 → ∀ n : Nat, n < 7 → bits BinOp.andNot IntKind.i64 (x : Int) ((2 ^ n : Nat) : Int) = (dropOne x n : Nat) := by decide +kernel
theorem drop_fact (x : Nat) (hx : x < 128) (n : Nat) (hn : n < 7) : bits BinOp.andNot IntKind.i64 (x : Int) (wrap64 (2 ^ n)) = (dropOne x n : Nat) := by
  rw [← drop_fact0 x hx n hn, wrap64_pow (by omega)]

theorem picked_hit {P : Nat → Bool} {k : Nat} (h : P k = true) : ((List.range (k + 1)).filter P).map listOf = ((List.range k).filter P).map listOf ++ [listOf k] := by
  simp [List.range_succ, List.filter_append, h]
theorem picked_miss {P : Nat → Bool} {k : Nat} (h : P k = false) : ((List.range (k + 1)).filter P).map listOf = ((List.range k).filter P).map listOf := by
  simp [List.range_succ, List.filter_append, h]
theorem picked_len (P : Nat → Bool) (k : Nat) : (((List.range k).filter P).map listOf).length ≤ k := by
  rw [List.length_map]; exact Nat.le_trans (List.length_filter_le _ _) (by simp)

/-- Sorted rows, read. -/
theorem rows2_of {W : World} {base g cap n : Nat} {ps : List (Value × List Int)} (hn : ps.length = n) (hrow : W.ownsRow base 28 1 (.slice (some ⟨g, 0, none⟩) n cap) n (ps.map Prod.fst)) (hin : PairsIn W base ps) : RowsF W base (some ⟨g, 0, none⟩) (ps.map Prod.snd) := by
  refine .inr ⟨g, 0, (hrow.lt g rfl).1, rfl, fun i hi => ?_⟩
  have hi' : i < ps.length := by simpa using hi
  have h1 := World.ownsRow.cellAt hrow i (by omega)
  rw [List.getElem?_map, List.getElem?_eq_getElem hi'] at h1
  obtain ⟨a, c, e, hI⟩ := (hin _ (List.getElem_mem hi')).intsF
  have e2 : nthL (ps.map Prod.snd) i = ps[i].2 := by rw [nthL_lt hi]; simp
  rw [e2]
  exact ⟨a, c, by rw [Nat.zero_add, h1]; simp [e], hI⟩

theorem lens_small {zss : List (List Int)} (h1 : zss.length ≤ 1048576) (h2 : ∀ z ∈ zss, z.length ≤ 1048576) : Small2 zss := ⟨h1, fun r hr => by rw [nthL_lt hr]; exact h2 _ (List.getElem_mem hr)⟩
theorem famOf_small {h : Nat} (h7 : h ≤ 7) (p : Nat → Bool) : Small2 (pickOf p (lexAll h)) := by
  refine lens_small (Nat.le_trans (pickOf_len _ _) (Nat.le_trans (lexAll_len h7) (by omega))) fun z hz => ?_
  simp only [pickOf, List.mem_map] at hz
  obtain ⟨y, _, rfl⟩ := hz
  exact Nat.le_trans (listTo_len _ 7) (by omega)

set_option maxHeartbeats 2000000 in
set_option maxRecDepth 100000 in
theorem l01From_any (h n c : Nat) (a : Option Addr) (p : Nat → Bool) (w : World) (h1 : 1 ≤ h) (h7 : h ≤ 7) (hn : n = 2 ^ h) (ht : Bools w a n p) :
    Calls Tryd.prog 81 #[.int .i64 (h : Nat), .slice a n c] w (GivesFamR w (h : Nat) (famOf h p)) := by
  have hn128 : n ≤ 128 := by rw [hn]; exact Nat.pow_le_pow_right (by decide) h7
  have HN := Lib.hid hn
  clear hn
  obtain ⟨b, o, rfl, hc⟩ := ht
  have HC := Lib.hid hc
  clear hc
  obtain ⟨i0, hi, hz0, hz1, hz2⟩ := info_parts Tryd.infoInt64S
  go_enter Tryd.func81, Tryd.ntmps81
  go_wp2_with fail
  have hB0 := ((Below.refl w.heap.size w).alloc (Nat.le_refl _) (.cells #[.int .i64 0, .slice none 0 0] 26)).alloc (by simp) (.cells #[] 28)
  have hF0 : ((w.alloc (.cells #[.int .i64 0, .slice none 0 0] 26)).alloc (.cells #[] 28)).heap[w.heap.size]? = some (.cells #[.int .i64 0, .slice none 0 0] 26) := (Below.heap_alloc _ _ _ (by simp)).trans (World.alloc_heap_new w _)
  have hR0 : ((w.alloc (.cells #[.int .i64 0, .slice none 0 0] 26)).alloc (.cells #[] 28)).ownsRow (w.heap.size + 1) 28 1 (.slice (some ⟨w.heap.size + 1, 0, none⟩) 0 0) 0 [] := by
    have := World.ownsRow_made (w.alloc (.cells #[.int .i64 0, .slice none 0 0] 26)) #[] 0 (e := 28) (size := 1) (Nat.le_refl _) (by unfold maxLen; omega) rfl
    simpa using this
  generalize ((w.alloc (.cells #[.int .i64 0, .slice none 0 0] 26)).alloc (.cells #[] 28)) = w1 at *
  go_loopw [5, 6] (fun v i wr => ∃ (k : Nat) (g cap : Nat) (ps : List (Value × List Int)), k ≤ n ∧ i = .int .i64 k ∧ v = .slice (some ⟨g, 0, none⟩) ps.length cap ∧ ps.map Prod.snd = ((List.range k).filter (leastB h p)).map listOf ∧ wr.ownsRow (w.heap.size + 1) 28 1 (.slice (some ⟨g, 0, none⟩) ps.length cap) ps.length (ps.map Prod.fst) ∧ PairsIn wr (w.heap.size + 1) ps ∧ Below w.heap.size w wr ∧ wr.heap[w.heap.size]? = some (.cells #[.int .i64 0, .slice none 0 0] 26))
    (fun _ i _ => n - (intOf i).toNat)
  case atStart => exact ⟨0, _, _, [], by omega, rfl, rfl, rfl, hR0, (fun q hq => by cases hq), hB0, hF0⟩
  case round =>
    obtain ⟨k, g, cap, ps, hk, rfl, rfl, hps, hrow, hin, hbel, hfam⟩ := hrel
    clear hB0 hF0 hR0
    have hpl : ps.length ≤ k := by
      have := congrArg List.length hps
      rw [List.length_map] at this
      rw [this]; exact picked_len _ _
    have HP := Lib.hid hps
    have HR := Lib.hid hrow
    have HI := Lib.hid hin
    have HB := Lib.hid hbel
    have HF := Lib.hid hfam
    have hszr := (Array.getElem?_eq_some_iff.1 hfam).1
    clear hps hrow hin hbel hfam
    by_cases hlt : k < n
    · obtain ⟨wo, rfl⟩ : ∃ wo : World, wo = wr := ⟨_, rfl⟩
      have hck := cell_step (HB.out) (HC.out k hlt)
      have hki : (k : Int) < (n : Int) := by omega
      go_wp2_with fail
      go_loopw [7, 8] (fun l i wr2 => ∃ j : Nat, j ≤ h ∧ i = .int .i64 j ∧ l = .bool (partB p k j) ∧ wr2 = wo)
        (fun _ i _ => h - (intOf i).toNat)
      case atStart => exact ⟨0, by omega, rfl, by rw [partB_zero], rfl⟩
      case round =>
        obtain ⟨j, hj, rfl, rfl, rfl⟩ := hrel
        by_cases hjh : j < h
        · have hji : (j : Int) < (h : Int) := by omega
          have hd : decide (j < h) = true := by simpa using hjh
          cases hpb : partB p k j with
          | true =>
            have HPB := Lib.hid hpb
            clear hpb
            have hof := of_fact k (by omega) j (by omega)
            cases hbit : k.testBit j with
            | true =>
              have HBIT := Lib.hid hbit
              rw [hbit] at hof
              clear hbit
              have hdr := drop_fact k (by omega) j (by omega)
              have hdl := Nat.lt_of_le_of_lt (dropOne_le k j) hlt
              have hcd := cell_step (HB.out) (HC.out _ hdl)
              have hS := Lib.hid (partB_succ p k j)
              generalize dropOne k j = y at *
              have hyi : (y : Int) < (n : Int) := by omega
              cases hpy : p y with
              | true =>
                rw [hpy] at hcd
                have HPY := Lib.hid hpy
                clear hpy
                go_wp2_with fail
                go_roundw
                case rel => exact ⟨j + 1, by omega, by go_num, by rw [hS.out, HPB.out, HBIT.out, HPY.out]; rfl, by simp⟩
                case measure => simp [intOf]; omega
              | false =>
                rw [hpy] at hcd
                have HPY := Lib.hid hpy
                clear hpy
                go_wp2_with fail
                go_roundw
                case rel => exact ⟨j + 1, by omega, by go_num, by rw [hS.out, HPB.out, HBIT.out, HPY.out]; rfl, by simp⟩
                case measure => simp [intOf]; omega
            | false =>
              have HBIT := Lib.hid hbit
              rw [hbit] at hof
              clear hbit
              have hS := Lib.hid (partB_succ p k j)
              go_wp2_with fail
              go_roundw
              case rel => exact ⟨j + 1, by omega, by go_num, by rw [hS.out, HPB.out, HBIT.out]; rfl, by simp⟩
              case measure => simp [intOf]; omega
          | false =>
            have HL := Lib.hid (partB_least hj hpb)
            clear hpb
            go_wp2_with fail
            go_roundw
            case rel => exact ⟨k + 1, g, cap, ps, by omega, by go_num, rfl, by rw [picked_miss HL.out]; exact HP.out, HR.out, HI.out, HB.out, HF.out⟩
            case measure => simp [intOf]; omega
        · have HJ := Lib.hid (show j = h by omega)
          have hk128 : k < 128 := by omega
          cases hpb : partB p k j with
          | false =>
            have HL := Lib.hid (partB_least hj hpb)
            clear hpb
            go_wp2_with fail
            go_roundw
            case rel => exact ⟨k + 1, g, cap, ps, by omega, by go_num, rfl, by rw [picked_miss HL.out]; exact HP.out, HR.out, HI.out, HB.out, HF.out⟩
            case measure => simp [intOf]; omega
          | true =>
            have HL := Lib.hid (show leastB h p k = true by rw [← partB_end, ← HJ.out]; exact hpb)
            clear hpb
            go_wp2_with (first
              | (go_at_call 80; (refine (l01Of_any k _ hk128).mono ?_; rintro e w' ⟨⟨u, rfl, hu⟩, hb⟩; obtain ⟨ua, uc, rfl⟩ := hu.form; have hsz' := Nat.lt_of_lt_of_le hszr hb.size; have HU := Lib.hid hu; have HBW := Lib.hid hb; have HROW' := Lib.hid (row_step HR.out hb); clear hu hb hck))
              | (at_builtin; refine wpList_append_own _ rfl _ _ 24 rfl (w.heap.size + 1) 28 i0 (.slice none 0 0) 1 24 Tryd.underlying24 hi hz0 hz1 hz2 rfl (by decide) _ _ _ rfl (World.ownsRow.alloc HROW'.out _) ⟨w'.heap.size, 0, none⟩ 1 1 [.slice ua (listOf k).length uc] rfl rfl (cell_one_new _ _ _) (by simp [Value.oneCell']) (by unfold maxLen; omega) (by omega) (by simp; omega) ?_; intro v' w1 hown2 hgrow2 _; obtain ⟨g', cap', rfl⟩ := ownsRow_succ hown2; have HO2 := Lib.hid hown2; have HG2 := Lib.hid hgrow2; clear hown2 hgrow2))
            go_roundw
            case rel =>
              refine ⟨k + 1, g', cap', ps ++ [(.slice ua (listOf k).length uc, listOf k)], by omega, by go_num, by rw [List.length_append]; rfl, ?_, ?_, fun q hq => ?_, ?_, ?_⟩
              · rw [picked_hit HL.out, List.map_append, HP.out]; rfl
              · rw [List.map_append, List.length_append]; exact HO2.out
              · have hq' : OwnI w' (w.heap.size + 1) q.1 q.2 := by
                  rcases List.mem_append.1 hq with h2 | h2
                  · exact (HI.out q h2).step HBW.out
                  · obtain rfl := List.mem_singleton.1 h2
                    exact HU.out.mono (by omega)
                exact (World.ownsRow.alloc hq' _).kept HG2.out (rows_apart hq' HROW'.out (by decide))
              · exact ((HB.out.trans (HBW.out.mono (Nat.le_of_lt hszr))).alloc (Nat.le_of_lt hsz') _).grown HG2.out (by simp; omega) (fun q hq => by have := (HROW'.out.lt q hq).1; omega)
              · refine (HG2.out.block _ (by simp; omega) (fun e => ?_)).trans ((Below.heap_alloc _ _ _ (by omega)).trans ((HBW.out.block _ hszr).trans HF.out))
                have := (HROW'.out.lt _ e.symm).1; omega
            case measure => simp [intOf]; omega
    · have HK := Lib.hid (show k = n by omega)
      go_wp2_with fail
      refine (l01Sorted_any g cap (w.heap.size + 1) ps wr HR.out HI.out (by omega)).mono ?_
      rintro e w' ⟨rfl, hrow, hin, hb⟩
      have hf' := (hb.block w.heap.size (by omega)).trans HF.out
      have c0 : w'.cell? ⟨w.heap.size, 0, none⟩ = some (.int .i64 0) := by simp [World.cell?, hf']
      have c1 : w'.cell? ⟨w.heap.size, 1, none⟩ = some (.slice none 0 0) := by simp [World.cell?, hf']
      have f0 : w'.frozen? ⟨w.heap.size, 0, none⟩ = false := by simp [World.frozen?, hf']
      have f1 : w'.frozen? ⟨w.heap.size, 1, none⟩ = false := by simp [World.frozen?, hf']
      have hso := sorts_of ps
      rw [HP.out, HK.out, HN.out] at hso
      have hfo := sorted_pick h7 _ hso
      have HFO := Lib.hid (show famOf h p = (sortFrom ltP (ps.length - 1) 1 ps).map Prod.snd from hfo.symm)
      have HSL := Lib.hid (show (sortFrom ltP (ps.length - 1) 1 ps).length = ps.length by
        have := congrArg List.length HFO.out
        have h2 := hso.1.length_eq
        rw [List.length_map] at h2
        rw [h2, ← HN.out, ← HK.out, ← HP.out, List.length_map])
      have HR2 := Lib.hid hrow
      have HI2 := Lib.hid hin
      have HB2 := Lib.hid hb
      clear hrow hin hb hf' hso hfo
      generalize sortFrom ltP (ps.length - 1) 1 ps = S at *
      go_wp2_with fail
      refine bodyPost_ret (v := .agg #[.int .i64 (h : Nat), .slice (some ⟨g, 0, none⟩) ps.length cap]) (by simp [results, Tryd.results81, go_sem, c0, c1]) rfl ⟨⟨some ⟨g, 0, none⟩, cap, ?_, ?_, ?_⟩, ?_⟩
      · rw [HFO.out, List.length_map, HSL.out]
      · rw [HFO.out]
        refine RowsF.mono ?_ (Nat.le_succ w.heap.size)
        exact rows2_of HSL.out (row_set (row_set HR2.out (by omega) _) (by omega) _) (HI2.out.map fun u zs hu => row_set (row_set hu (by omega) _) (by omega) _)
      · exact (famOf_small h7 _).lens
      · exact ((HB.out.trans (HB2.out.mono (by omega))).setCell (by simp) _).setCell (by simp) _
end Go.Proofs.YteifllengcacbaaDoor

/- tableOf with a shelf, which keeps all but the shelf; two tables of one shelf, in stages. -/
import Derived.Test.YteifllengcacbaaDoorTwo
namespace Go.Proofs.YteifllengcacbaaDoor
open Go.RowKit Go.Deep Go.Shelf
set_option linter.unusedVariables false

/-- All blocks that are there, but one. -/
def KeepsBut (r : Nat) (W W' : World) : Prop := ∀ b, b < W.heap.size → b ≠ r → W'.heap[b]? = W.heap[b]?
structure GivesTableK (r clock : Nat) (W : World) (h : Int) (zss : List (List Int)) (e : Ending) (w' : World) : Prop where
  g : GivesTable r clock W h zss e w'
  k : KeepsBut r W w'
structure GivesTable2K (r T1 : Nat) (h1 : Int) (z1 : List (List Int)) (W : World) (h : Int) (zss : List (List Int)) (e : Ending) (w' : World) : Prop where
  g : GivesTable2 r T1 h1 z1 W h zss e w'
  k : KeepsBut r W w'

set_option maxHeartbeats 1000000 in
set_option maxRecDepth 100000 in
theorem shelfTableK_any (r clock : Nat) (h : Int) (a : Option Addr) (zss : List (List Int)) (c : Nat) (w : World) (hb : w.heap[r]? = some (.map #[] clock)) (hr : Rows2 w a zss) (hs : Small2 zss) :
    Calls Tryd.prog 66 #[.map (some r), .agg #[.int .i64 h, .slice a zss.length c]] w (GivesTableK r clock w h zss) := by
  have hrl : r < w.heap.size := (Array.getElem?_eq_some_iff.1 hb).1
  have hll := hs.1
  have hB0 := (Below.refl w.heap.size w).alloc (Nat.le_refl _) (.cells #[.int .i64 h, .slice a zss.length c] 26)
  have HM := Lib.hid ((hB0.block r hrl).trans hb)
  have HF := Lib.hid (World.alloc_heap_new w (.cells #[.int .i64 h, .slice a zss.length c] 26))
  have HA := Lib.hid (hr.step hB0)
  have HB := Lib.hid hB0
  have hsz : (w.alloc (.cells #[.int .i64 h, .slice a zss.length c] 26)).heap.size = w.heap.size + 1 := by simp
  clear hb hr hB0
  have c0 : (w.alloc (.cells #[.int .i64 h, .slice a zss.length c] 26)).cell? ⟨w.heap.size, 0, none⟩ = some (.int .i64 h) := by simp [go_sem]
  have c1 : (w.alloc (.cells #[.int .i64 h, .slice a zss.length c] 26)).cell? ⟨w.heap.size, 1, none⟩ = some (.slice a zss.length c) := by simp [go_sem]
  go_enter Tryd.func66, Tryd.ntmps66
  go_wp2_with fail
  generalize w.alloc (.cells #[.int .i64 h, .slice a zss.length c] 26) = w1 at *
  refine (implFamText_any h a zss c w1 HA.out hs).mono ?_
  rintro e w2 ⟨rfl, hb2⟩
  have hlt1 : w.heap.size < w1.heap.size := by omega
  have d0 := (hb2.cell (p := ⟨w.heap.size, 0, none⟩) hlt1).trans c0
  have d1 := (hb2.cell (p := ⟨w.heap.size, 1, none⟩) hlt1).trans c1
  have hm2 := (hb2.block r (by omega)).trans HM.out
  have hlk := run_lookup_fresh 76 9 57 r clock (famTextV h zss) (.pointer none) w2 tblUnder Tryd.underlying9 (by kernel_rfl) hm2
  have HM2 := Lib.hid hm2
  have HA2 := Lib.hid (HA.out.step hb2)
  have HB2 := Lib.hid (HB.out.trans (hb2.mono (Nat.le_of_lt hlt1)))
  have hs2 := hb2.size
  clear hm2 hb2 c0 c1
  generalize hgt : famTextV h zss = tx at *
  have HTX := Lib.hid hgt
  clear hgt
  go_wp2_with fail
  refine (leastSets_any h a zss c w2 HA2.out hs).mono ?_
  rintro e w3 ⟨⟨v, rfl, hrow⟩, hb3⟩
  have e0 := (hb3.cell (p := ⟨w.heap.size, 0, none⟩) (by omega : w.heap.size < w2.heap.size)).trans d0
  have HM3 := Lib.hid ((hb3.block r (by omega)).trans HM2.out)
  have HB3 := Lib.hid (HB2.out.trans (hb3.mono (by omega : w.heap.size ≤ w2.heap.size)))
  have hs3 := hb3.size
  clear hb3 hlk d0 d1
  by_cases hf : FamOk h zss
  · have HT := Lib.hid (tell_true hf)
    have HFO := Lib.hid hf
    have hh := hf.1
    have h1 := hh.1
    have h7 := hh.2
    have HSM := Lib.hid (allSmall_bits hf.2.1 h7)
    obtain ⟨a2, c2, rfl, hsets, hlen⟩ := Sets.of_owns (l := bitsUpTo zss zss.length) (by rw [bitsUpTo_len]; exact hrow hf)
    have HSE := Lib.hid hsets
    have HTB := Lib.hid (show tabOf h zss = seenBy (anyIn (bitsUpTo zss zss.length)) (lexAll h.toNat) from rfl)
    clear hf hh hrow hsets
    obtain ⟨m, rfl⟩ : ∃ m : Nat, h = (m : Int) := ⟨h.toNat, by omega⟩
    have m1 : 1 ≤ m := by omega
    have m7 : m ≤ 7 := by omega
    rw [Int.toNat_natCast] at HTB
    generalize bitsUpTo zss zss.length = l at *
    rw [HT.out]
    go_wp2_with fail
    refine (newTable_any m a2 l c2 w3 m1 m7 HSE.out HSM.out hlen).mono ?_
    rintro e w4 ⟨⟨T, rfl, hT, htab⟩, hb4⟩
    have hm4 := (hb4.block r (by omega)).trans HM3.out
    have hmu := run_mapUpdate_first w4 76 9 57 r clock tx (.pointer (some ⟨T, 0, none⟩)) tblUnder Tryd.underlying9 hm4
    have HTA := Lib.hid htab
    have HB4 := Lib.hid (HB3.out.trans (hb4.mono (by omega : w.heap.size ≤ w3.heap.size)))
    have hs4 := hb4.size
    have hr4 : r < w4.heap.size := by omega
    clear hm4 htab hb4 e0
    go_wp2_with fail
    go_ret
    refine ⟨⟨fun _ => ⟨T, rfl, by omega, ?_, ?_⟩, fun hn => absurd HFO.out hn, ?_⟩, fun b hb hne => (putMap_other _ (Ne.symm hne)).trans (HB4.out.block b hb)⟩
    · rw [HTB.out, Int.toNat_natCast]
      exact HTA.out.other (putMap_other _ (by omega))
    · rw [HTX.out]
      exact putMap_at _ hr4
    · exact (HB4.out.mono (Nat.le_of_lt hrl)).trans (putMap_below w4 r _)
  · have HT := Lib.hid (tell_false hf)
    have HFO := Lib.hid hf
    clear hf hrow
    rw [HT.out]
    go_wp2_with fail
    go_ret
    exact ⟨⟨fun hy => absurd hy HFO.out, fun _ => ⟨rfl, HM3.out⟩, HB3.out.mono (Nat.le_of_lt hrl)⟩, fun b hb _ => HB3.out.block b hb⟩

set_option maxHeartbeats 1000000 in
set_option maxRecDepth 100000 in
theorem shelfTable2K_any (r clock T1 : Nat) (h1 : Int) (z1 : List (List Int)) (h : Int) (a : Option Addr) (zss : List (List Int)) (c : Nat) (w : World) (hb : w.heap[r]? = some (.map #[{ key := .string (famTextV h1 z1), val := .pointer (some ⟨T1, 0, none⟩), born := clock }] (clock + 1)))
    (hf1 : FamOk h1 z1) (ht1 : TableAt w T1 h1.toNat (tabOf h1 z1)) (hrT : r ≠ T1) (hr : Rows2 w a zss) (hs : Small2 zss) :
    Calls Tryd.prog 66 #[.map (some r), .agg #[.int .i64 h, .slice a zss.length c]] w (GivesTable2K r T1 h1 z1 w h zss) := by
  have hrl : r < w.heap.size := (Array.getElem?_eq_some_iff.1 hb).1
  have hll := hs.1
  have hB0 := (Below.refl w.heap.size w).alloc (Nat.le_refl _) (.cells #[.int .i64 h, .slice a zss.length c] 26)
  have HM := Lib.hid ((hB0.block r hrl).trans hb)
  have HT1 := Lib.hid (ht1.step hB0)
  have HA := Lib.hid (hr.step hB0)
  have HB := Lib.hid hB0
  have HF1 := Lib.hid hf1
  have hsz : (w.alloc (.cells #[.int .i64 h, .slice a zss.length c] 26)).heap.size = w.heap.size + 1 := by simp
  clear hb hr hB0 ht1 hf1
  have c0 : (w.alloc (.cells #[.int .i64 h, .slice a zss.length c] 26)).cell? ⟨w.heap.size, 0, none⟩ = some (.int .i64 h) := by simp [go_sem]
  have c1 : (w.alloc (.cells #[.int .i64 h, .slice a zss.length c] 26)).cell? ⟨w.heap.size, 1, none⟩ = some (.slice a zss.length c) := by simp [go_sem]
  go_enter Tryd.func66, Tryd.ntmps66
  go_wp2_with fail
  generalize w.alloc (.cells #[.int .i64 h, .slice a zss.length c] 26) = w1 at *
  refine (implFamText_any h a zss c w1 HA.out hs).mono ?_
  rintro e w2 ⟨rfl, hb2⟩
  have hlt1 : w.heap.size < w1.heap.size := by omega
  have d0 := (hb2.cell (p := ⟨w.heap.size, 0, none⟩) hlt1).trans c0
  have d1 := (hb2.cell (p := ⟨w.heap.size, 1, none⟩) hlt1).trans c1
  have hm2 := (hb2.block r (by omega)).trans HM.out
  have HM2 := Lib.hid hm2
  have HT2 := Lib.hid (HT1.out.step hb2)
  have HA2 := Lib.hid (HA.out.step hb2)
  have HB2 := Lib.hid (HB.out.trans (hb2.mono (Nat.le_of_lt hlt1)))
  have hs2 := hb2.size
  clear hm2 hb2 c0 c1
  by_cases he : famTextV h zss = famTextV h1 z1
  · have hfo : FamOk h zss := Classical.byContradiction fun k => famText_ne HF1.out k he
    obtain ⟨eh, ez⟩ := famText_inj hfo HF1.out he
    have hlk := run_lookup_hit 76 9 57 r (clock + 1) clock (famTextV h zss) (.pointer (some ⟨T1, 0, none⟩)) w2 tblUnder Tryd.underlying9 (by rw [he]; exact HM2.out)
    have HFO := Lib.hid hfo
    have HE := Lib.hid (And.intro eh ez)
    clear he hfo eh ez
    generalize famTextV h zss = tx at *
    go_wp2_with fail
    go_ret
    refine ⟨⟨fun _ => ⟨T1, rfl, ?_⟩, fun k => absurd HFO.out k, HT2.out, HB2.out.mono (Nat.le_of_lt hrl)⟩, fun b hb _ => HB2.out.block b hb⟩
    rw [HE.out.1, HE.out.2]
    exact HT2.out
  have hlk := run_lookup_miss 76 9 57 r (clock + 1) clock (famTextV h zss) (famTextV h1 z1) (.pointer (some ⟨T1, 0, none⟩)) (.pointer none) w2 tblUnder Tryd.underlying9 (by kernel_rfl) HM2.out he
  have HNE := Lib.hid he
  clear he
  generalize famTextV h zss = tx at *
  generalize famTextV h1 z1 = tx1 at *
  go_wp2_with fail
  refine (leastSets_any h a zss c w2 HA2.out hs).mono ?_
  rintro e w3 ⟨⟨v, rfl, hrow⟩, hb3⟩
  have e0 := (hb3.cell (p := ⟨w.heap.size, 0, none⟩) (by omega : w.heap.size < w2.heap.size)).trans d0
  have HM3 := Lib.hid ((hb3.block r (by omega)).trans HM2.out)
  have HT3 := Lib.hid (HT2.out.step hb3)
  have HB3 := Lib.hid (HB2.out.trans (hb3.mono (by omega : w.heap.size ≤ w2.heap.size)))
  have hs3 := hb3.size
  clear hb3 hlk d0 d1
  by_cases hf : FamOk h zss
  · have HT := Lib.hid (tell_true hf)
    have HFO := Lib.hid hf
    have hh := hf.1
    have h1' := hh.1
    have h7 := hh.2
    have HSM := Lib.hid (allSmall_bits hf.2.1 h7)
    obtain ⟨a2, c2, rfl, hsets, hlen⟩ := Sets.of_owns (l := bitsUpTo zss zss.length) (by rw [bitsUpTo_len]; exact hrow hf)
    have HSE := Lib.hid hsets
    have HTB := Lib.hid (show tabOf h zss = seenBy (anyIn (bitsUpTo zss zss.length)) (lexAll h.toNat) from rfl)
    clear hf hh hrow hsets
    obtain ⟨m, rfl⟩ : ∃ m : Nat, h = (m : Int) := ⟨h.toNat, by omega⟩
    have m1 : 1 ≤ m := by omega
    have m7 : m ≤ 7 := by omega
    rw [Int.toNat_natCast] at HTB
    generalize bitsUpTo zss zss.length = l at *
    rw [HT.out]
    go_wp2_with fail
    refine (newTable_any m a2 l c2 w3 m1 m7 HSE.out HSM.out hlen).mono ?_
    rintro e w4 ⟨⟨T, rfl, hT, htab⟩, hb4⟩
    have hm4 := (hb4.block r (by omega)).trans HM3.out
    have hmu := run_mapUpdate_second w4 76 9 57 r (clock + 1) clock tx tx1 (.pointer (some ⟨T1, 0, none⟩)) (.pointer (some ⟨T, 0, none⟩)) tblUnder Tryd.underlying9 hm4 HNE.out
    have HTA := Lib.hid htab
    have HT4 := Lib.hid (HT3.out.step hb4)
    have HB4 := Lib.hid (HB3.out.trans (hb4.mono (by omega : w.heap.size ≤ w3.heap.size)))
    have hs4 := hb4.size
    have hr4 : r < w4.heap.size := by omega
    clear hm4 htab hb4 e0
    go_wp2_with fail
    go_ret
    refine ⟨⟨fun _ => ⟨T, rfl, ?_⟩, fun hn => absurd HFO.out hn, HT4.out.other (putMap_other _ hrT), ?_⟩, fun b hb hne => (putMap_other _ (Ne.symm hne)).trans (HB4.out.block b hb)⟩
    · rw [HTB.out, Int.toNat_natCast]
      exact HTA.out.other (putMap_other _ (by omega))
    · exact (HB4.out.mono (Nat.le_of_lt hrl)).trans (putMap_below w4 r _)
  · have HT := Lib.hid (tell_false hf)
    have HFO := Lib.hid hf
    clear hf hrow
    rw [HT.out]
    go_wp2_with fail
    go_ret
    exact ⟨⟨fun hy => absurd hy HFO.out, fun _ => rfl, HT3.out, HB3.out.mono (Nat.le_of_lt hrl)⟩, fun b hb _ => HB3.out.block b hb⟩

/-- Where the first table is there, or none. -/
def Stage1 (r clock : Nat) (h1 : Int) (z1 : List (List Int)) (v1 : Value) (W : World) : Prop :=
  (FamOk h1 z1 ∧ ∃ T1, v1 = .pointer (some ⟨T1, 0, none⟩) ∧ r ≠ T1 ∧ TableAt W T1 h1.toNat (tabOf h1 z1) ∧ W.heap[r]? = some (.map #[{ key := .string (famTextV h1 z1), val := .pointer (some ⟨T1, 0, none⟩), born := clock }] (clock + 1))) ∨
  (¬ FamOk h1 z1 ∧ v1 = .pointer none ∧ W.heap[r]? = some (.map #[] clock))
theorem Stage1.step {r clock : Nat} {h1 : Int} {z1 : List (List Int)} {v1 : Value} {W W' : World} (h : Stage1 r clock h1 z1 v1 W) (hb : Below W.heap.size W W') : Stage1 r clock h1 z1 v1 W' := by
  rcases h with ⟨h1, T1, h2, h3, h4, h5⟩ | ⟨h1, h2, h3⟩
  · exact .inl ⟨h1, T1, h2, h3, h4.step hb, (hb.block r (Array.getElem?_eq_some_iff.1 h5).1).trans h5⟩
  · exact .inr ⟨h1, h2, (hb.block r (Array.getElem?_eq_some_iff.1 h3).1).trans h3⟩
/-- A family's table, or none. -/
def HasTab (h : Int) (zss : List (List Int)) (v : Value) (W : World) : Prop :=
  (FamOk h zss ∧ ∃ T, v = .pointer (some ⟨T, 0, none⟩) ∧ TableAt W T h.toNat (tabOf h zss)) ∨ (¬ FamOk h zss ∧ v = .pointer none)
theorem HasTab.step {h : Int} {zss : List (List Int)} {v : Value} {W W' : World} (k : HasTab h zss v W) (hb : Below W.heap.size W W') : HasTab h zss v W' := by
  rcases k with ⟨h1, T, h2, h3⟩ | h1
  · exact .inl ⟨h1, T, h2, h3.step hb⟩
  · exact .inr h1
theorem HasTab.set {h : Int} {zss : List (List Int)} {v : Value} {W : World} (k : HasTab h zss v W) {q : Nat} {x : Option Addr} (hq : W.cell? ⟨q, 0, none⟩ = some (.pointer x)) (u : Value) : HasTab h zss v (W.setCell ⟨q, 0, none⟩ u) := by
  rcases k with ⟨h1, T, h2, h3⟩ | h1
  · have hne : T ≠ q := fun e => by
      have := h3.h0
      rw [e, hq] at this
      cases this
    refine .inl ⟨h1, T, h2, ⟨?_, fun y hy => ?_, fun o => ?_⟩⟩
    · rw [World.cell?_setCell_other _ _ _ _ (by simp <;> omega)]; exact h3.h0
    · rw [World.cell?_setCell_other _ _ _ _ (by simp <;> omega)]; exact h3.cell y hy
    · rw [World.frozen?_setCell]; exact h3.free o
  · exact .inr h1

theorem first_any (r clock : Nat) (h : Int) (a : Option Addr) (zss : List (List Int)) (c : Nat) (w : World) (hb : w.heap[r]? = some (.map #[] clock)) (hr : Rows2 w a zss) (hs : Small2 zss) :
    Calls Tryd.prog 66 #[.map (some r), .agg #[.int .i64 h, .slice a zss.length c]] w fun e w' => ∃ v : Option Addr, e = .returned (.pointer v) ∧ Stage1 r clock h zss (.pointer v) w' ∧ Below r w w' ∧ KeepsBut r w w' := by
  have hrl : r < w.heap.size := (Array.getElem?_eq_some_iff.1 hb).1
  refine (shelfTableK_any r clock h a zss c w hb hr hs).mono ?_
  rintro e w' ⟨⟨hy, hn, hbl⟩, hk⟩
  by_cases hf : FamOk h zss
  · obtain ⟨T, rfl, hT, ht, hm⟩ := hy hf
    exact ⟨_, rfl, .inl ⟨hf, T, rfl, by omega, ht, hm⟩, hbl, hk⟩
  · obtain ⟨rfl, hm⟩ := hn hf
    exact ⟨_, rfl, .inr ⟨hf, rfl, hm⟩, hbl, hk⟩
theorem second_any (r clock : Nat) (h1 : Int) (z1 : List (List Int)) (v1 : Value) (h : Int) (a : Option Addr) (zss : List (List Int)) (c : Nat) (w : World) (hst : Stage1 r clock h1 z1 v1 w) (hr : Rows2 w a zss) (hs : Small2 zss) :
    Calls Tryd.prog 66 #[.map (some r), .agg #[.int .i64 h, .slice a zss.length c]] w fun e w' => ∃ v : Option Addr, e = .returned (.pointer v) ∧ HasTab h1 z1 v1 w' ∧ HasTab h zss (.pointer v) w' ∧ Below r w w' ∧ KeepsBut r w w' := by
  rcases hst with ⟨f1, T1, rfl, hrT, ht1, hm⟩ | ⟨f1, rfl, hm⟩
  · refine (shelfTable2K_any r clock T1 h1 z1 h a zss c w hm f1 ht1 hrT hr hs).mono ?_
    rintro e w' ⟨⟨hy, hn, ht, hbl⟩, hk⟩
    by_cases hf : FamOk h zss
    · obtain ⟨T, rfl, htt⟩ := hy hf
      exact ⟨_, rfl, .inl ⟨f1, T1, rfl, ht⟩, .inl ⟨hf, T, rfl, htt⟩, hbl, hk⟩
    · obtain rfl := hn hf
      exact ⟨_, rfl, .inl ⟨f1, T1, rfl, ht⟩, .inr ⟨hf, rfl⟩, hbl, hk⟩
  · refine (shelfTableK_any r clock h a zss c w hm hr hs).mono ?_
    rintro e w' ⟨⟨hy, hn, hbl⟩, hk⟩
    by_cases hf : FamOk h zss
    · obtain ⟨T, rfl, hT, ht, hm⟩ := hy hf
      exact ⟨_, rfl, .inr ⟨f1, rfl⟩, .inl ⟨hf, T, rfl, ht⟩, hbl, hk⟩
    · obtain ⟨rfl, hm⟩ := hn hf
      exact ⟨_, rfl, .inr ⟨f1, rfl⟩, .inr ⟨hf, rfl⟩, hbl, hk⟩
end Go.Proofs.YteifllengcacbaaDoor

/- The program's tableOf, at a map without entries. -/
import Derived.Test.YtnebkhelobpkpaaDoorNt2
import Derived.Test.YtnebkhelobpkpaaDoorFt
import Derived.WideMake
namespace Go.Proofs.YtnebkhelobpkpaaDoor
open Go.RowKit Go.Deep Go.Shelf
set_option linter.unusedVariables false

theorem run_lookup_fresh {P : Program} (mty kt et : TypeId) (r clock : Nat) (s : ByteArray) (z : Value) (w : World) (hm : P.underlying mty = some (.map kt et)) (hk : P.underlying kt = some .string) (hz : (zeroValue et).run P w = .ok z w) (hb : w.heap[r]? = some (.map #[] clock)) :
    (Instr.lookup mty (.map (some r)) (.string s) false).run P w = .ok z w := by
  have hf : Instr.findNow .string (.string s) ([] : List MapEntry) 0 = some none := rfl
  have hc : (Instr.checkKey true 10000 kt (.string s)).run P w = .ok () w := MapKept.run_checkKey (k := .string s) hk (by simp [MapKept.IsKey]) true 9999
  simp [Instr.lookup, run_underlying hm, MapKept.run_getObj_map hb, hc, MapKept.run_findKey hk hf, hz, Result.andThen]

theorem TableAt.other {W W' : World} {T h : Nat} {q : Nat → Bool} (ht : TableAt W T h q) (hb : W'.heap[T]? = W.heap[T]?) : TableAt W' T h q :=
  ⟨(World.cell?_of_block (w := W) (a := ⟨T, 0, none⟩) hb).trans ht.h0, fun x hx => (World.cell?_of_block (w := W) (a := ⟨T, 1 + x, none⟩) hb).trans (ht.cell x hx), fun o => (World.frozen?_of_block (w := W) (a := ⟨T, o, none⟩) hb).trans (ht.free o)⟩

/-- A block that holds another map now. -/
def putMap (W : World) (r : Nat) (o : Obj) : World := { W with heap := W.heap.setIfInBounds r o }
theorem putMap_below (W : World) (r : Nat) (o : Obj) : Below r W (putMap W r o) :=
  ⟨rfl, rfl, rfl, by simp [putMap], fun k hk => by simp only [putMap]; rw [Array.getElem?_setIfInBounds_ne (by omega)]⟩
theorem putMap_other {W : World} {r T : Nat} (o : Obj) (h : r ≠ T) : (putMap W r o).heap[T]? = W.heap[T]? := by
  simp only [putMap]; rw [Array.getElem?_setIfInBounds_ne h]
theorem putMap_at {W : World} {r : Nat} (o : Obj) (h : r < W.heap.size) : (putMap W r o).heap[r]? = some o := by
  simp [putMap, h]

/-- The groups that the table of a family opens. -/
def tabOf (h : Int) (zss : List (List Int)) : Nat → Bool := seenBy (anyIn (bitsUpTo zss zss.length)) (lexAll h.toNat)
/-- What gives a family's table, and keeps it. -/
structure GivesTable (r clock : Nat) (W : World) (h : Int) (zss : List (List Int)) (e : Ending) (w' : World) : Prop where
  yes : FamOk h zss → ∃ T, e = .returned (.pointer (some ⟨T, 0, none⟩)) ∧ W.heap.size ≤ T ∧ TableAt w' T h.toNat (tabOf h zss) ∧ w'.heap[r]? = some (.map #[{ key := .string (famTextV h zss), val := .pointer (some ⟨T, 0, none⟩), born := clock }] (clock + 1))
  no : ¬ FamOk h zss → e = .returned (.pointer none) ∧ w'.heap[r]? = some (.map #[] clock)
  below : Below r W w'

theorem tblUnder : Tryd.prog.underlying 125 = some (.map 9 71) := by kernel_rfl

set_option maxHeartbeats 1000000 in
set_option maxRecDepth 100000 in
theorem shelfTable_any (r clock : Nat) (h : Int) (a : Option Addr) (zss : List (List Int)) (c : Nat) (w : World) (hb : w.heap[r]? = some (.map #[] clock)) (hr : Rows2 w a zss) (hs : Small2 zss) :
    Calls Tryd.prog 80 #[.map (some r), .agg #[.int .i64 h, .slice a zss.length c]] w (GivesTable r clock w h zss) := by
  have hrl : r < w.heap.size := (Array.getElem?_eq_some_iff.1 hb).1
  have hll := hs.1
  have hB0 := (Below.refl w.heap.size w).alloc (Nat.le_refl _) (.cells #[.int .i64 h, .slice a zss.length c] 29)
  have HM := Lib.hid ((hB0.block r hrl).trans hb)
  have HF := Lib.hid (World.alloc_heap_new w (.cells #[.int .i64 h, .slice a zss.length c] 29))
  have HA := Lib.hid (hr.step hB0)
  have HB := Lib.hid hB0
  have hsz : (w.alloc (.cells #[.int .i64 h, .slice a zss.length c] 29)).heap.size = w.heap.size + 1 := by simp
  clear hb hr hB0
  have c0 : (w.alloc (.cells #[.int .i64 h, .slice a zss.length c] 29)).cell? ⟨w.heap.size, 0, none⟩ = some (.int .i64 h) := by simp [go_sem]
  have c1 : (w.alloc (.cells #[.int .i64 h, .slice a zss.length c] 29)).cell? ⟨w.heap.size, 1, none⟩ = some (.slice a zss.length c) := by simp [go_sem]
  go_enter Tryd.func80, Tryd.ntmps80
  go_wp2_with fail
  generalize w.alloc (.cells #[.int .i64 h, .slice a zss.length c] 29) = w1 at *
  refine (implFamText_any h a zss c w1 HA.out hs).mono ?_
  rintro e w2 ⟨rfl, hb2⟩
  have hlt1 : w.heap.size < w1.heap.size := by omega
  have d0 := (hb2.cell (p := ⟨w.heap.size, 0, none⟩) hlt1).trans c0
  have d1 := (hb2.cell (p := ⟨w.heap.size, 1, none⟩) hlt1).trans c1
  have hm2 := (hb2.block r (by omega)).trans HM.out
  have hlk := run_lookup_fresh 125 9 71 r clock (famTextV h zss) (.pointer none) w2 tblUnder Tryd.underlying9 (by kernel_rfl) hm2
  have HM2 := Lib.hid hm2
  have HA2 := Lib.hid (HA.out.step hb2)
  have HB2 := Lib.hid (HB.out.trans (hb2.mono (Nat.le_of_lt hlt1)))
  have hs2 := hb2.size
  clear hm2 hb2 c0 c1
  generalize hgt : famTextV h zss = tx at *
  have HTX := Lib.hid hgt
  clear hgt
  go_wp2_with fail
  refine (leastSets_any h a zss c w2 HA2.out hs).mono ?_
  rintro e w3 ⟨⟨v, rfl, hrow⟩, hb3⟩
  have e0 := (hb3.cell (p := ⟨w.heap.size, 0, none⟩) (by omega : w.heap.size < w2.heap.size)).trans d0
  have HM3 := Lib.hid ((hb3.block r (by omega)).trans HM2.out)
  have HB3 := Lib.hid (HB2.out.trans (hb3.mono (by omega : w.heap.size ≤ w2.heap.size)))
  have hs3 := hb3.size
  clear hb3 hlk d0 d1
  by_cases hf : FamOk h zss
  · have HT := Lib.hid (tell_true hf)
    have HFO := Lib.hid hf
    have hh := hf.1
    have h1 := hh.1
    have h7 := hh.2
    have HSM := Lib.hid (allSmall_bits hf.2.1 h7)
    obtain ⟨a2, c2, rfl, hsets, hlen⟩ := Sets.of_owns (l := bitsUpTo zss zss.length) (by rw [bitsUpTo_len]; exact hrow hf)
    have HSE := Lib.hid hsets
    have HTB := Lib.hid (show tabOf h zss = seenBy (anyIn (bitsUpTo zss zss.length)) (lexAll h.toNat) from rfl)
    clear hf hh hrow hsets
    obtain ⟨m, rfl⟩ : ∃ m : Nat, h = (m : Int) := ⟨h.toNat, by omega⟩
    have m1 : 1 ≤ m := by omega
    have m7 : m ≤ 7 := by omega
    rw [Int.toNat_natCast] at HTB
    generalize bitsUpTo zss zss.length = l at *
    rw [HT.out]
    go_wp2_with fail
    refine (newTable_any m a2 l c2 w3 m1 m7 HSE.out HSM.out hlen).mono ?_
    rintro e w4 ⟨⟨T, rfl, hT, htab⟩, hb4⟩
    have hm4 := (hb4.block r (by omega)).trans HM3.out
    have hmu := run_mapUpdate_first w4 125 9 71 r clock tx (.pointer (some ⟨T, 0, none⟩)) tblUnder Tryd.underlying9 hm4
    have HTA := Lib.hid htab
    have HB4 := Lib.hid (HB3.out.trans (hb4.mono (by omega : w.heap.size ≤ w3.heap.size)))
    have hs4 := hb4.size
    have hr4 : r < w4.heap.size := by omega
    clear hm4 htab hb4 e0
    go_wp2_with fail
    go_ret
    refine ⟨fun _ => ⟨T, rfl, by omega, ?_, ?_⟩, fun hn => absurd HFO.out hn, ?_⟩
    · rw [HTB.out, Int.toNat_natCast]
      exact HTA.out.other (putMap_other _ (by omega))
    · rw [HTX.out]
      exact putMap_at _ hr4
    · exact (HB4.out.mono (Nat.le_of_lt hrl)).trans (putMap_below w4 r _)
  · have HT := Lib.hid (tell_false hf)
    have HFO := Lib.hid hf
    clear hf hrow
    rw [HT.out]
    go_wp2_with fail
    go_ret
    exact ⟨fun hy => absurd hy HFO.out, fun _ => ⟨rfl, HM3.out⟩, HB3.out.mono (Nat.le_of_lt hrl)⟩

/-- What gives a family's table, or nil. -/
structure GivesTab1 (W : World) (h : Int) (zss : List (List Int)) (e : Ending) (w' : World) : Prop where
  yes : FamOk h zss → ∃ T, e = .returned (.pointer (some ⟨T, 0, none⟩)) ∧ W.heap.size ≤ T ∧ TableAt w' T h.toNat (tabOf h zss)
  no : ¬ FamOk h zss → e = .returned (.pointer none)
  below : Below W.heap.size W w'

set_option maxRecDepth 100000 in
theorem tableOf_any (h : Int) (a : Option Addr) (zss : List (List Int)) (c : Nat) (w : World) (hr : Rows2 w a zss) (hs : Small2 zss) :
    Calls Tryd.prog 38 #[.agg #[.int .i64 h, .slice a zss.length c]] w (GivesTab1 w h zss) := by
  have hB1 := (Below.refl w.heap.size w).alloc (Nat.le_refl _) (.cells #[.int .i64 h, .slice a zss.length c] 29)
  have hB2 := hB1.alloc (by simp) (.map #[] 0)
  have hM : ((w.alloc (.cells #[.int .i64 h, .slice a zss.length c] 29)).alloc (.map #[] 0)).heap[w.heap.size + 1]? = some (.map #[] 0) := by
    have := World.alloc_heap_new (w.alloc (.cells #[.int .i64 h, .slice a zss.length c] 29)) (.map #[] 0)
    simpa using this
  have HA := Lib.hid (hr.step hB2)
  have HB := Lib.hid hB2
  have HM := Lib.hid hM
  have hmk := run_makeMap_plain (P := Tryd.prog) (w.alloc (.cells #[.int .i64 h, .slice a zss.length c] 29)) 125
  clear hr hB1 hB2 hM
  go_enter Tryd.func38, Tryd.ntmps38
  go_wp2_with fail
  generalize (w.alloc (.cells #[.int .i64 h, .slice a zss.length c] 29)).alloc (.map #[] 0) = w2 at *
  refine (shelfTable_any (w.heap.size + 1) 0 h a zss c w2 HM.out HA.out hs).mono ?_
  rintro e w3 ⟨hy, hn, hb⟩
  have hle := HB.out.size
  have hBB := HB.out.trans (hb.mono (Nat.le_succ w.heap.size))
  by_cases hf : FamOk h zss
  · obtain ⟨T, rfl, hT, htab, _⟩ := hy hf
    have HTA := Lib.hid htab
    have HBB := Lib.hid hBB
    have HF := Lib.hid hf
    clear htab hBB hf hy hn hb
    go_wp2_with fail
    go_ret
    exact ⟨fun _ => ⟨T, rfl, by omega, HTA.out⟩, fun hn => absurd HF.out hn, HBB.out⟩
  · obtain ⟨rfl, _⟩ := hn hf
    have HBB := Lib.hid hBB
    have HF := Lib.hid hf
    clear hBB hf hy hn hb
    go_wp2_with fail
    go_ret
    exact ⟨fun hy => absurd hy HF.out, fun _ => rfl, HBB.out⟩
end Go.Proofs.YtnebkhelobpkpaaDoor

/- Tables in memory: rows with a secret and shares; the contracts of the laws' own helpers on them: szTable, toTable, eqTable; a table by value, opened. -/
import Derived.Test.YtgndekojodpmkaaDoorMk2
import Derived.Deep.SlicePairs
import Derived.BigQuiet
import Derived.Deep.RegionHeld3
namespace Go.Proofs.YtgndekojodpmkaaDoor
open Go.ChangeShapes Go.WideShapes Go.ChangeAt Go.RowKit Go.Deep Go.Joins
set_option linter.unusedVariables false

theorem Tryd.infoRow : (Tryd.prog.info? 71).map (fun i => (i.zero, i.size, i.bytes)) = some (some (.agg #[.int .i64 0, .slice none 0 0]), 2, 32) := by kernel_rfl

/-- A row is a list: its secret, and its shares behind it. -/
def sec (z : List (List Int)) (i : Nat) : Int := nth (nthL z i) 0
def shs (z : List (List Int)) (i : Nat) : List Int := (nthL z i).drop 1
def Full (z : List (List Int)) : Prop := ∀ i, i < z.length → nthL z i ≠ []
theorem row_split {z : List (List Int)} {i : Nat} (h : nthL z i ≠ []) : nthL z i = sec z i :: shs z i := by
  unfold sec shs
  cases e : nthL z i with
  | nil => exact absurd e h
  | cons x xs => simp [nth, List.getD]
theorem row_len {z : List (List Int)} {i : Nat} (h : nthL z i ≠ []) : (nthL z i).length = (shs z i).length + 1 := by rw [row_split h]; simp
theorem rows_ext {z y : List (List Int)} (hl : z.length = y.length) (hz : Full z) (hy : Full y) (h : ∀ i, i < z.length → sec z i = sec y i ∧ shs z i = shs y i) : z = y :=
  ext_nthL hl fun i hi => by rw [row_split (hz i hi), row_split (hy i (by omega)), (h i hi).1, (h i hi).2]
/-- Rows, to be read. -/
def RowsT (w : World) (a : Option Addr) (z : List (List Int)) : Prop :=
  z = [] ∨ ∃ b o, a = some ⟨b, o, none⟩ ∧ ∀ i, i < z.length → ∃ (ai : Option Addr) (ci : Nat), w.cell? ⟨b, o + i * 2, none⟩ = some (.int .i64 (sec z i)) ∧ w.cell? ⟨b, o + i * 2 + 1, none⟩ = some (.slice ai (shs z i).length ci) ∧ Ints w ai (shs z i)
theorem RowsT.step {w w' : World} {a : Option Addr} {z : List (List Int)} (hb : Below w.heap.size w w') (h : RowsT w a z) : RowsT w' a z := by
  rcases h with h | ⟨b, o, ha, hc⟩
  · exact .inl h
  · refine .inr ⟨b, o, ha, fun i hi => ?_⟩
    obtain ⟨ai, ci, h1, h2, h3⟩ := hc i hi
    exact ⟨ai, ci, cell_step hb h1, cell_step hb h2, h3.step hb⟩
theorem RowsT.below {B : Nat} {w w' : World} {a : Option Addr} {z : List (List Int)} (h : RowsT w a z) (hb : Below B w w') (hB : w.heap.size ≤ B) : RowsT w' a z := h.step (hb.mono hB)
theorem RowsT.quiet {w w' : World} {a : Option Addr} {z : List (List Int)} (h : RowsT w a z) (q : Quiet w w') : RowsT w' a z := h.step (quiet_below q)
structure LensR (z : List (List Int)) : Prop where
  n : z.length ≤ 9223372036854775807
  r : ∀ i, i < z.length → (shs z i).length ≤ 9223372036854775807
structure SmR (z : List (List Int)) : Prop where
  n : z.length ≤ 1048576
  r : ∀ i, i < z.length → (shs z i).length ≤ 1048576
theorem SmR.lens {z : List (List Int)} (h : SmR z) : LensR z := ⟨by have := h.n; omega, fun i hi => by have := h.r i hi; omega⟩
structure InT (W : World) (ao : Option Addr) (yo : List Int) (a : Option Addr) (z : List (List Int)) : Prop where
  o : Ints W ao yo
  r : RowsT W a z
theorem InT.step {W W' : World} {ao a : Option Addr} {yo : List Int} {z : List (List Int)} (hb : Below W.heap.size W W') (h : InT W ao yo a z) : InT W' ao yo a z := ⟨h.o.step hb, h.r.step hb⟩
theorem InT.quiet {W W' : World} {ao a : Option Addr} {yo : List Int} {z : List (List Int)} (h : InT W ao yo a z) (q : Quiet W W') : InT W' ao yo a z := h.step (quiet_below q)
structure LenT (yo : List Int) (z : List (List Int)) : Prop where
  o : yo.length ≤ 9223372036854775807
  r : LensR z
  full : Full z
structure SmT (yo : List Int) (z : List (List Int)) : Prop where
  o : yo.length ≤ 1048576
  r : SmR z
  full : Full z
theorem SmT.lens {yo : List Int} {z : List (List Int)} (h : SmT yo z) : LenT yo z := ⟨by have := h.o; omega, h.r.lens, h.full⟩
def RoomR (left : Int) (z : List (List Int)) (v : Int) : Prop := v = -1 ∨ (0 ≤ v ∧ v + total z ≤ left ∧ v ≤ left ∧ SmR z)
def RoomT (left : Int) (yo : List Int) (z : List (List Int)) (v : Int) : Prop := v = -1 ∨ (0 ≤ v ∧ v + (yo.length + total z) ≤ left ∧ v ≤ left ∧ SmT yo z)

set_option maxRecDepth 100000 in
theorem szRow2_any (s : Int) (a : Option Addr) (sh : List Int) (c : Nat) (left : Int) (w : World) (h0 : 0 ≤ left) (h1 : left ≤ 1048576) (hl : sh.length ≤ 9223372036854775807) :
    Calls Tryd.prog 68 #[.agg #[.int .i64 s, .slice a sh.length c], .int .i64 left] w fun e w' => GivesInt (fun v => v = -1 ∨ (0 ≤ v ∧ v + sh.length ≤ left)) e ∧ Below w.heap.size w w' := by
  have hb := Lib.hid ((Below.refl w.heap.size w).alloc (Nat.le_refl _) (.cells #[.int .i64 s, .slice a sh.length c] 104))
  go_enter Tryd.func68, Tryd.ntmps68
  go_wp2_with fail
  refine (szS2_any a sh c left _ h0 h1 hl).mono ?_
  rintro e w1 ⟨⟨u, hu, rfl⟩, rfl⟩
  rcases hu with rfl | ⟨hu0, hu1⟩
  · go_wp2
    go_ret
    exact ⟨⟨_, .inl rfl, rfl⟩, hb.out⟩
  have HU := Lib.hid hu1
  clear hu1
  go_wp2
  go_ret
  exact ⟨⟨_, .inr ⟨hu0, HU.out⟩, rfl⟩, hb.out⟩

set_option maxRecDepth 100000 in
set_option maxHeartbeats 400000 in
theorem szRowS2_any (a : Option Addr) (z : List (List Int)) (c : Nat) (left : Int) (w : World) (h : RowsT w a z) (h0 : 0 ≤ left) (h1 : left ≤ 1048576) (hl : LensR z) (hf : Full z) :
    Calls Tryd.prog 34 #[.slice a z.length c, .int .i64 left] w fun e w' => GivesInt (RoomR left z) e ∧ Below w.heap.size w w' := by
  have hn := hl.n
  by_cases hneg : left - (z.length : Int) < 0
  · go_enter Tryd.func34, Tryd.ntmps34
    go_wp2
    go_ret
    exact ⟨⟨_, .inl rfl, rfl⟩, Below.refl _ _⟩
  have hpos : 0 ≤ left - (z.length : Int) := by omega
  have HL := Lib.hid hl
  have HF := Lib.hid hf
  have HR := Lib.hid h
  clear hl hneg hf h
  go_enter Tryd.func34, Tryd.ntmps34
  go_wp2
  go_loopw [1, 5] (fun l i wr => ∃ (k : Nat) (v : Int), k ≤ z.length ∧ i = .int .i64 k ∧ l = .int .i64 v ∧ 0 ≤ v ∧ v ≤ left ∧ v + total (z.take k) + ((z.length : Int) - k) ≤ left ∧ (∀ r, r < k → (shs z r).length ≤ 1048576) ∧ Below w.heap.size w wr)
    (fun _ i _ => z.length - (intOf i).toNat)
  case atStart => exact ⟨0, _, Nat.zero_le _, rfl, rfl, by omega, by omega, by simp [total], fun r hr => absurd hr (Nat.not_lt_zero _), Below.refl _ _⟩
  case round =>
    obtain ⟨k, v, hk, rfl, rfl, hv0, hv1, hv2, hsm, hb⟩ := hrel
    have HS := Lib.hid hsm
    have HV := Lib.hid hv2
    have HB := Lib.hid hb
    clear hsm hv2 hb
    by_cases hlt : k < z.length
    · rcases HR.out.below HB.out (Nat.le_refl _) with h | ⟨b, o, rfl, hc⟩
      · rw [h] at hlt; exact absurd hlt (Nat.not_lt_zero _)
      obtain ⟨ai, ci, hc0, hc1, hints⟩ := hc k hlt
      have HT := Lib.hid (total_take hlt)
      have HLN := Lib.hid (row_len (HF.out k hlt))
      have hll := HL.out.r k hlt
      clear hc hints
      go_wp2_with fail
      refine (szRow2_any _ ai (shs z k) ci v wr hv0 (by omega) hll).mono ?_
      rintro e w1 ⟨⟨u, hu, rfl⟩, hb1⟩
      have HB1 := Lib.hid (HB.out.trans (hb1.mono HB.out.size))
      clear hb1
      rcases hu with rfl | ⟨hu0, hu1⟩
      · go_wp2
        go_ret
        exact ⟨⟨_, .inl rfl, rfl⟩, HB1.out⟩
      · have HU := Lib.hid hu1
        clear hu1
        go_wp2
        go_roundw
        case rel =>
          have h2 := HV.out
          have h3 := HT.out
          have h4 := HU.out
          have h5 := HLN.out
          refine ⟨k + 1, u, by omega, by go_num, rfl, hu0, by omega, by omega, fun r hr => ?_, HB1.out⟩
          by_cases e : r = k
          · subst e; omega
          · exact HS.out r (by omega)
        case measure => simp [intOf]; omega
    · have HK := Lib.hid (show k = z.length by omega)
      go_wp2
      go_ret
      refine ⟨⟨_, .inr ⟨hv0, ?_, hv1, by omega, fun r hr => HS.out r (by omega)⟩, rfl⟩, HB.out⟩
      have := HV.out
      rw [HK.out, List.take_length] at this
      omega

set_option maxRecDepth 100000 in
theorem szTable2_any (h : Int) (ao : Option Addr) (yo : List Int) (co : Nat) (a : Option Addr) (z : List (List Int)) (c : Nat) (left : Int) (w : World) (hr : InT w ao yo a z) (h0 : 0 ≤ left) (h1 : left ≤ 1048576) (hl : LenT yo z) :
    Calls Tryd.prog 9 #[.agg #[.int .i64 h, .slice ao yo.length co, .slice a z.length c], .int .i64 left] w fun e w' => GivesInt (RoomT left yo z) e ∧ Below w.heap.size w w' := by
  have HL := Lib.hid hl
  have hb := (Below.refl w.heap.size w).alloc (Nat.le_refl _) (.cells #[.int .i64 h, .slice ao yo.length co, .slice a z.length c] 25)
  have HR := Lib.hid (hr.step hb)
  have HB := Lib.hid hb
  clear hl hr hb
  go_enter Tryd.func9, Tryd.ntmps9
  go_wp2_with fail
  refine (szS2_any ao yo co left _ h0 h1 HL.out.o).mono ?_
  rintro e w1 ⟨⟨u, hu, rfl⟩, rfl⟩
  rcases hu with rfl | ⟨hu0, hu1⟩
  · go_wp2
    go_ret
    exact ⟨⟨_, .inl rfl, rfl⟩, HB.out⟩
  have HU := Lib.hid hu1
  have hul : u ≤ 1048576 := by omega
  clear hu1
  go_wp2_with fail
  refine (szRowS2_any a z c u _ HR.out.r hu0 hul HL.out.r HL.out.full).mono ?_
  rintro e w1 ⟨⟨q, hq, rfl⟩, hb⟩
  have HB1 := Lib.hid (chain HB.out hb)
  clear hb
  rcases hq with rfl | ⟨hq0, hq1, hq2, hq3⟩
  · go_wp2
    go_ret
    exact ⟨⟨_, .inl rfl, rfl⟩, HB1.out⟩
  have HQ := Lib.hid (And.intro hq1 (And.intro hq2 hq3))
  clear hq1 hq2 hq3
  go_wp2
  go_ret
  exact ⟨⟨_, .inr ⟨hq0, by have := HQ.out.1; have := HU.out; omega, by have := HQ.out.2.1; have := HU.out; omega, by have := HU.out; omega, HQ.out.2.2, HL.out.full⟩, rfl⟩, HB1.out⟩

theorem run_make_row2 {P : Program} (t e : TypeId) (z0 z1 : Value) (bytes : Nat) (ht : P.underlying t = some (.slice e)) (hinfo : (P.info? e).map (fun i => (i.zero, i.size, i.bytes)) = some (some (.agg #[z0, z1]), 2, bytes)) (hz1 : (Value.agg #[z0, z1]).cells = #[z0, z1])
    (kl kc : IntKind) (n : Nat) (hbytes : bytes * n ≤ 281474976710656) (h63 : n ≤ 9223372036854775807) (w : World) :
    (Instr.makeSlice t (.int kl (n : Int)) (.int kc (n : Int))).run P w = .ok (.slice (some ⟨w.heap.size, 0, none⟩) n n) (w.alloc (.cells (madeCells #[z0, z1] (n * 2)) e)) := by
  obtain ⟨i, hi, hzz⟩ := Option.map_eq_some_iff.1 hinfo
  simp only [Prod.mk.injEq] at hzz
  obtain ⟨hz, hs, hb⟩ := hzz
  have hb' : (i.bytes : Int) * (n : Int) ≤ 281474976710656 := by
    have h : ((i.bytes * n : Nat) : Int) ≤ 281474976710656 := by rw [hb]; omega
    rwa [Int.natCast_mul] at h
  have hr := run_make (P := P) w t e i _ ht hi hz kl kc n n (by omega) (Int.le_refl _) hb' (by omega)
  simp only [Int.toNat_natCast, hs, hz1] at hr
  exact hr
theorem rowIs_made2 (w : World) (z0 z1 : Value) (n : Nat) (t : TypeId) : (w.alloc (.cells (madeCells #[z0, z1] (n * 2)) t)).rowIs w.heap.size t (n * 2) (fun q => if q % 2 = 0 then z0 else z1) :=
  ⟨_, World.alloc_heap_new _ _, size_madeCells _ _, fun i hi => by
    have h : i % 2 = 0 ∨ i % 2 = 1 := by omega
    rcases h with h | h <;> simp [madeCells, hi, h]⟩

/-- What a copy of rows has made: the rows at t, the shares of row i at t + 4 + 4 i. -/
def cellT (t : Nat) (z : List (List Int)) (q : Nat) : Value := if q % 2 = 0 then .int .i64 (sec z (q / 2)) else .slice (some ⟨t + 4 + 4 * (q / 2), 0, none⟩) (shs z (q / 2)).length (shs z (q / 2)).length
structure OwnRT (W : World) (t : Nat) (z : List (List Int)) : Prop where
  top : W.rowIs t 71 (z.length * 2) (cellT t z)
  row : ∀ r, r < z.length → W.rowIs (t + 4 + 4 * r) 2 (shs z r).length (fun i => .int .i64 (nth (shs z r) i))
theorem OwnRT.rows {W : World} {t : Nat} {z : List (List Int)} (h : OwnRT W t z) : RowsT W (some ⟨t, 0, none⟩) z :=
  .inr ⟨t, 0, rfl, fun i hi => ⟨some ⟨t + 4 + 4 * i, 0, none⟩, (shs z i).length, by
    have := h.top.cell (i := i * 2) (by omega)
    rw [show 0 + i * 2 = i * 2 by omega, this]
    unfold cellT
    rw [if_pos (by omega), show i * 2 / 2 = i by omega], by
    have := h.top.cell (i := i * 2 + 1) (by omega)
    rw [show 0 + i * 2 + 1 = i * 2 + 1 by omega, this]
    unfold cellT
    rw [if_neg (by omega), show (i * 2 + 1) / 2 = i by omega], Ints.of_row (h.row i hi)⟩⟩
theorem OwnRT.step {W W' : World} {t : Nat} {z : List (List Int)} (hb : Below W.heap.size W W') (h : OwnRT W t z) : OwnRT W' t z := ⟨rowIs_below h.top hb h.top.lt, fun r hr => rowIs_below (h.row r hr) hb (h.row r hr).lt⟩
theorem OwnRT.setCell {W : World} {t : Nat} {z : List (List Int)} (h : OwnRT W t z) {p : Addr} (hp : p.block < t) (v : Value) : OwnRT (W.setCell p v) t z := ⟨h.top.setOther (by omega) _, fun r hr => (h.row r hr).setOther (by omega) _⟩

set_option maxRecDepth 100000 in
set_option maxHeartbeats 1000000 in
theorem toRow_any (s : Int) (a : Option Addr) (sh : List Int) (c : Nat) (w : World) (hr : Ints w a sh) (hs : sh.length ≤ 1048576) :
    Calls Tryd.prog 73 #[.agg #[.int .i64 s, .slice a sh.length c]] w fun e w' => e = .returned (.agg #[.int .i64 s, .slice (some ⟨w.heap.size + 3, 0, none⟩) sh.length sh.length]) ∧
      w'.heap.size = w.heap.size + 4 ∧ w'.rowIs (w.heap.size + 3) 2 sh.length (fun i => .int .i64 (nth sh i)) ∧ Below w.heap.size w w' := by
  have HR := Lib.hid hr
  clear hr
  go_enter Tryd.func73, Tryd.ntmps73
  go_wp2_with fail
  refine (toInt64S_any a sh c _ (HR.out.below ?_ (Nat.le_refl _)) hs).mono ?_
  · exact (((Below.refl _ _).alloc (Nat.le_refl _) _).alloc (by simp) _).alloc (by simp; omega) _
  rintro e w1 ⟨rfl, hsz, hown, hbel⟩
  obtain ⟨hc, hf⟩ := bcell hbel
  simp only [World.size_alloc] at hsz hown hbel hc hf
  have HZ := Lib.hid hsz
  have HO := Lib.hid hown
  have HB := Lib.hid hbel
  clear hsz hown hbel
  go_wp2
  have hb1 : Below w.heap.size w w1 := ((((Below.refl w.heap.size w).alloc (Nat.le_refl _) _).alloc (by simp) _).alloc (by simp; omega) _).trans (HB.out.mono (by omega))
  refine bodyPost_ret (v := .agg #[.int .i64 s, .slice (some ⟨w.heap.size + 3, 0, none⟩) sh.length sh.length]) (by simp [results, Tryd.results73, go_sem, hc]) rfl ⟨rfl, ?_, ?_, ?_⟩
  · simp only [World.size_setCell]; rw [HZ.out]
  · exact ((HO.out.setOther (a := ⟨w.heap.size + 1 + 1, 1, none⟩) (by show w.heap.size + 3 ≠ w.heap.size + 1 + 1; omega) _).setOther (a := ⟨w.heap.size + 1, 0, none⟩) (by show w.heap.size + 3 ≠ w.heap.size + 1; omega) _).setOther (a := ⟨w.heap.size + 1, 1, none⟩) (by show w.heap.size + 3 ≠ w.heap.size + 1; omega) _
  · exact ((hb1.setCell (p := ⟨w.heap.size + 1 + 1, 1, none⟩) (by show w.heap.size ≤ w.heap.size + 1 + 1; omega) _).setCell (p := ⟨w.heap.size + 1, 0, none⟩) (by show w.heap.size ≤ w.heap.size + 1; omega) _).setCell (p := ⟨w.heap.size + 1, 1, none⟩) (by show w.heap.size ≤ w.heap.size + 1; omega) _

/-- The cells of a copy of which k rows are done. -/
def cellK (t : Nat) (z : List (List Int)) (k q : Nat) : Value := if q / 2 < k then cellT t z q else if q % 2 = 0 then .int .i64 0 else .slice none 0 0
set_option maxRecDepth 100000 in
set_option maxHeartbeats 1000000 in
theorem toRowS_any (a : Option Addr) (z : List (List Int)) (c : Nat) (w : World) (h : RowsT w a z) (hs : SmR z) :
    Calls Tryd.prog 37 #[.slice a z.length c] w fun e w' => e = .returned (.slice (some ⟨w.heap.size, 0, none⟩) z.length z.length) ∧
      w'.heap.size = w.heap.size + 1 + 4 * z.length ∧ OwnRT w' w.heap.size z ∧ Below w.heap.size w w' := by
  have hn := hs.n
  have HSM := Lib.hid hs
  have hmk := run_make_row2 (P := Tryd.prog) 28 71 (.int .i64 0) (.slice none 0 0) 32 Tryd.underlying28 Tryd.infoRow rfl .i64 .i64 z.length (by omega) (by omega)
  have HR := Lib.hid h
  clear h hs
  go_enter Tryd.func37, Tryd.ntmps37
  go_wp2
  have hr0 := Lib.hid (rowIs_made2 w (.int .i64 0) (.slice none 0 0) z.length 71)
  have hB0 := Lib.hid ((Below.refl w.heap.size w).alloc (Nat.le_refl _) (.cells (madeCells #[.int .i64 0, .slice none 0 0] (z.length * 2)) 71))
  clear hmk
  go_loopw [4] (fun i wr => ∃ k : Nat, k ≤ z.length ∧ i = .int .i64 k ∧ wr.heap.size = w.heap.size + 1 + 4 * k ∧
      wr.rowIs w.heap.size 71 (z.length * 2) (cellK w.heap.size z k) ∧
      (∀ r, r < k → wr.rowIs (w.heap.size + 4 + 4 * r) 2 (shs z r).length (fun i => .int .i64 (nth (shs z r) i))) ∧ Below w.heap.size w wr)
    (fun i _ => z.length - (intOf i).toNat)
  case atStart => exact ⟨0, Nat.zero_le _, rfl, by simp, hr0.out.congr (fun i _ => by simp [cellK]), fun r hr => absurd hr (Nat.not_lt_zero _), hB0.out⟩
  case round =>
    obtain ⟨k, hk, rfl, hsz, hrow, hrows, hbel⟩ := hrel
    have HS := Lib.hid hsz
    have HW := Lib.hid hrow
    have HRS := Lib.hid hrows
    have HB := Lib.hid hbel
    clear hr0 hB0 hsz hrow hrows hbel
    by_cases hlt : k < z.length
    · rcases HR.out.below HB.out (Nat.le_refl _) with h | ⟨b, o, rfl, hc⟩
      · rw [h] at hlt; exact absurd hlt (Nat.not_lt_zero _)
      obtain ⟨ai, ci, hc0, hc1, hints⟩ := hc k hlt
      have hll := HSM.out.r k hlt
      clear hc
      go_wp2_with fail
      refine (toRow_any (sec z k) ai (shs z k) ci wr hints hll).mono ?_
      rintro e w1 ⟨rfl, hsz1, hrow1, hbel1⟩
      have hrow := rowIs_below HW.out hbel1 HW.out.lt
      have e1 : wr.heap.size = w.heap.size + 1 + 4 * k := HS.out
      have h2 : w1.cell? ⟨w.heap.size, k * 2, none⟩ = some (.int .i64 0) := by rw [hrow.cell (i := k * 2) (by omega)]; simp [cellK]
      have h3 : w1.cell? ⟨w.heap.size, k * 2 + 1, none⟩ = some (.slice none 0 0) := by rw [hrow.cell (i := k * 2 + 1) (by omega)]; simp [cellK, show (k * 2 + 1) / 2 = k by omega, show (k * 2 + 1) % 2 = 1 by omega]
      have h4 : w1.frozen? ⟨w.heap.size, k * 2, none⟩ = false := hrow.frozen _
      have h5 : w1.frozen? ⟨w.heap.size, k * 2 + 1, none⟩ = false := hrow.frozen _
      rw [show wr.heap.size + 3 = w.heap.size + 4 + 4 * k by omega] at hrow1 ⊢
      have hrow' := ((hrow.set (k * 2) (.int .i64 (sec z k))).set (k * 2 + 1) (.slice (some ⟨w.heap.size + 4 + 4 * k, 0, none⟩) (shs z k).length (shs z k).length)).congr (g := cellK w.heap.size z (k + 1)) (fun j _ => by
        by_cases e2 : j = k * 2 + 1
        · subst e2; simp [cellK, cellT, show (k * 2 + 1) / 2 = k by omega, show (k * 2 + 1) % 2 = 1 by omega]
        · by_cases e3 : j = k * 2
          · subst e3; simp [cellK, cellT]
          · rw [if_neg e2, if_neg e3]
            by_cases e4 : j / 2 < k
            · simp [cellK, e4, show j / 2 < k + 1 by omega]
            · simp [cellK, e4, show ¬ j / 2 < k + 1 by omega])
      have hbel' := ((HB.out.trans (hbel1.mono (by omega))).setCell (p := ⟨w.heap.size, k * 2, none⟩) (Nat.le_refl _) (.int .i64 (sec z k))).setCell (p := ⟨w.heap.size, k * 2 + 1, none⟩) (Nat.le_refl _) (.slice (some ⟨w.heap.size + 4 + 4 * k, 0, none⟩) (shs z k).length (shs z k).length)
      have hsz' : ((w1.setCell ⟨w.heap.size, k * 2, none⟩ (.int .i64 (sec z k))).setCell ⟨w.heap.size, k * 2 + 1, none⟩ (.slice (some ⟨w.heap.size + 4 + 4 * k, 0, none⟩) (shs z k).length (shs z k).length)).heap.size = w.heap.size + 1 + 4 * (k + 1) := by simp only [World.size_setCell]; omega
      have hrows' : ∀ r, r < k + 1 → ((w1.setCell ⟨w.heap.size, k * 2, none⟩ (.int .i64 (sec z k))).setCell ⟨w.heap.size, k * 2 + 1, none⟩ (.slice (some ⟨w.heap.size + 4 + 4 * k, 0, none⟩) (shs z k).length (shs z k).length)).rowIs (w.heap.size + 4 + 4 * r) 2 (shs z r).length (fun i => .int .i64 (nth (shs z r) i)) := by
        intro r hr
        refine World.rowIs.setOther (World.rowIs.setOther ?_ (by show w.heap.size + 4 + 4 * r ≠ w.heap.size; omega) _) (by show w.heap.size + 4 + 4 * r ≠ w.heap.size; omega) _
        by_cases e : r = k
        · subst e; exact hrow1
        · exact rowIs_below (HRS.out r (by omega)) hbel1 (HRS.out r (by omega)).lt
      have HS' := Lib.hid hsz'
      have HR' := Lib.hid hrow'
      have HRS' := Lib.hid hrows'
      have HB' := Lib.hid hbel'
      clear hsz' hrow' hrows' hbel' hrow hrow1 hsz1 hbel1 e1 hc0 hc1 hints
      go_wp2
      go_roundw
      case rel => exact ⟨k + 1, by omega, by go_num, HS'.out, HR'.out, HRS'.out, HB'.out⟩
      case measure => simp [intOf]; omega
    · have HE := Lib.hid (show k = z.length by omega)
      go_wp2
      go_ret
      exact ⟨rfl, by rw [HS.out, HE.out], ⟨HW.out.congr (fun i hi => by unfold cellK; rw [if_pos (by omega)]), fun r hr => HRS.out r (by omega)⟩, HB.out⟩

/-- What a copy of a table has made: the sizes at g, the rows from g + 1 on. -/
structure OwnT (W : World) (g : Nat) (yo : List Int) (z : List (List Int)) : Prop where
  top : W.rowIs g 2 yo.length (fun i => .int .i64 (nth yo i))
  mat : OwnRT W (g + 1) z
theorem OwnT.rows {W : World} {g : Nat} {yo : List Int} {z : List (List Int)} (h : OwnT W g yo z) : InT W (some ⟨g, 0, none⟩) yo (some ⟨g + 1, 0, none⟩) z := ⟨Ints.of_row h.top, h.mat.rows⟩
theorem OwnT.step {W W' : World} {g : Nat} {yo : List Int} {z : List (List Int)} (hb : Below W.heap.size W W') (h : OwnT W g yo z) : OwnT W' g yo z := ⟨rowIs_below h.top hb h.top.lt, h.mat.step hb⟩
theorem OwnT.setCell {W : World} {g : Nat} {yo : List Int} {z : List (List Int)} (h : OwnT W g yo z) {p : Addr} (hp : p.block < g) (v : Value) : OwnT (W.setCell p v) g yo z := ⟨h.top.setOther (by omega) _, h.mat.setCell (by omega) _⟩

set_option maxRecDepth 100000 in
set_option maxHeartbeats 1000000 in
theorem toTable_any (h : Int) (ao : Option Addr) (yo : List Int) (co : Nat) (a : Option Addr) (z : List (List Int)) (c : Nat) (w : World) (hr : InT w ao yo a z) (hs : SmT yo z) :
    Calls Tryd.prog 11 #[.agg #[.int .i64 h, .slice ao yo.length co, .slice a z.length c]] w fun e w' =>
      e = .returned (.agg #[.int .i64 h, .slice (some ⟨w.heap.size + 3, 0, none⟩) yo.length yo.length, .slice (some ⟨w.heap.size + 3 + 1, 0, none⟩) z.length z.length]) ∧
      w'.heap.size = w.heap.size + 5 + 4 * z.length ∧ OwnT w' (w.heap.size + 3) yo z ∧ Below w.heap.size w w' := by
  have HS := Lib.hid hs
  have HR := Lib.hid hr
  clear hs hr
  go_enter Tryd.func11, Tryd.ntmps11
  go_wp2_with fail
  refine (toInt64S_any ao yo co _ (HR.out.o.below ?_ (Nat.le_refl _)) HS.out.o).mono ?_
  · exact (((Below.refl _ _).alloc (Nat.le_refl _) _).alloc (by simp) _).alloc (by simp; omega) _
  rintro e w1 ⟨rfl, hsz, hrow, hbel⟩
  have hb1 := (((Below.refl w.heap.size w).alloc (Nat.le_refl _) (.cells #[.int .i64 h, .slice ao yo.length co, .slice a z.length c] 25)).alloc (by simp) (.cells #[.int .i64 0, .slice none 0 0, .slice none 0 0] 30)).alloc (by simp; omega) (.cells #[.int .i64 h, .slice none 0 0, .slice none 0 0] 30)
  obtain ⟨hc, hf⟩ := bcell hbel
  simp only [World.size_alloc] at hsz hrow hbel hc hf
  have hb2 := (hb1.trans (hbel.mono (by omega))).setCell (p := ⟨w.heap.size + 1 + 1, 1, none⟩) (by show w.heap.size ≤ w.heap.size + 1 + 1; omega) (.slice (some ⟨w.heap.size + 1 + 1 + 1, 0, none⟩) yo.length yo.length)
  have HB2 := Lib.hid hb2
  have HR2 := Lib.hid (HR.out.r.below hb2 (Nat.le_refl _))
  have HO := Lib.hid (hrow.setOther (a := ⟨w.heap.size + 1 + 1, 1, none⟩) (by show w.heap.size + 1 + 1 + 1 ≠ w.heap.size + 1 + 1; omega) (.slice (some ⟨w.heap.size + 1 + 1 + 1, 0, none⟩) yo.length yo.length))
  have HZ := Lib.hid (show (w1.setCell ⟨w.heap.size + 1 + 1, 1, none⟩ (.slice (some ⟨w.heap.size + 1 + 1 + 1, 0, none⟩) yo.length yo.length)).heap.size = w.heap.size + 4 by simp only [World.size_setCell]; omega)
  have g0 : w.heap.size < w1.heap.size := by omega
  have g1 : w.heap.size + 1 + 1 < w1.heap.size := by omega
  clear hsz hrow hb1 hb2 hbel HR
  go_wp2_with fail
  refine (toRowS_any a z c _ HR2.out HS.out.r).mono ?_
  rintro e w2 ⟨rfl, hsz2, hown2, hbel2⟩
  obtain ⟨hd, hg⟩ := bcell hbel2
  have hb3 := HB2.out.trans (hbel2.mono (by rw [HZ.out]; omega))
  have hro := rowIs_below HO.out hbel2 HO.out.lt
  rw [HZ.out] at hsz2 hown2 hd hg hbel2 ⊢
  have HB3 := Lib.hid hb3
  have HO2 := Lib.hid hown2
  have HRO := Lib.hid hro
  have HZ2 := Lib.hid hsz2
  clear hb3 hown2 hbel2 hro hsz2
  go_wp2
  refine bodyPost_ret (v := .agg #[.int .i64 h, .slice (some ⟨w.heap.size + 3, 0, none⟩) yo.length yo.length, .slice (some ⟨w.heap.size + 3 + 1, 0, none⟩) z.length z.length]) (by simp [results, Tryd.results11, go_sem, hd, hc]) rfl ⟨rfl, ?_, ?_, ?_⟩
  · simp only [World.size_setCell]; rw [HZ2.out]
  · exact ((((show OwnT w2 (w.heap.size + 3) yo z from ⟨HRO.out, HO2.out⟩).setCell (p := ⟨w.heap.size + 1 + 1, 2, none⟩) (by show w.heap.size + 1 + 1 < w.heap.size + 3; omega) _).setCell (p := ⟨w.heap.size + 1, 0, none⟩) (by show w.heap.size + 1 < w.heap.size + 3; omega) _).setCell (p := ⟨w.heap.size + 1, 1, none⟩) (by show w.heap.size + 1 < w.heap.size + 3; omega) _).setCell (p := ⟨w.heap.size + 1, 2, none⟩) (by show w.heap.size + 1 < w.heap.size + 3; omega) _
  · exact (((HB3.out.setCell (p := ⟨w.heap.size + 1 + 1, 2, none⟩) (by show w.heap.size ≤ w.heap.size + 1 + 1; omega) _).setCell (p := ⟨w.heap.size + 1, 0, none⟩) (by show w.heap.size ≤ w.heap.size + 1; omega) _).setCell (p := ⟨w.heap.size + 1, 1, none⟩) (by show w.heap.size ≤ w.heap.size + 1; omega) _).setCell (p := ⟨w.heap.size + 1, 2, none⟩) (by show w.heap.size ≤ w.heap.size + 1; omega) _

set_option maxRecDepth 100000 in
theorem eqRow_same (s : Int) (a b : Option Addr) (sh : List Int) (ca cb : Nat) (w : World) (ha : Ints w a sh) (hb : Ints w b sh) (hl : sh.length ≤ 9223372036854775807) :
    Calls Tryd.prog 79 #[.agg #[.int .i64 s, .slice a sh.length ca], .agg #[.int .i64 s, .slice b sh.length cb]] w fun e w' => e = .returned (.bool true) ∧ Below w.heap.size w w' := by
  have hb1 := ((Below.refl w.heap.size w).alloc (Nat.le_refl _) (.cells #[.int .i64 s, .slice a sh.length ca] 71)).alloc (by simp) (.cells #[.int .i64 s, .slice b sh.length cb] 71)
  have HA := Lib.hid (ha.step hb1)
  have HB := Lib.hid (hb.step hb1)
  have HB1 := Lib.hid hb1
  clear ha hb hb1
  go_enter Tryd.func79, Tryd.ntmps79
  go_wp2_with fail
  refine (eqInt64S_same a b sh ca cb _ HA.out HB.out hl).mono ?_
  rintro e w1 ⟨rfl, hq⟩
  have HB2 := Lib.hid (chain HB1.out (quiet_below hq))
  clear hq
  go_wp2
  go_ret
  exact ⟨rfl, HB2.out⟩

set_option maxRecDepth 100000 in
set_option maxHeartbeats 400000 in
theorem eqRowS_same (a b : Option Addr) (z : List (List Int)) (ca cb : Nat) (w : World) (ha : RowsT w a z) (hb : RowsT w b z) (hl : LensR z) :
    Calls Tryd.prog 43 #[.slice a z.length ca, .slice b z.length cb] w fun e w' => e = .returned (.bool true) ∧ Below w.heap.size w w' := by
  have hn := hl.n
  have HL := Lib.hid hl
  have HA := Lib.hid ha
  have HB := Lib.hid hb
  clear hl ha hb
  go_enter Tryd.func43, Tryd.ntmps43
  go_wp2
  go_loopw [5] (fun i wr => ∃ k : Nat, k ≤ z.length ∧ i = .int .i64 k ∧ Below w.heap.size w wr)
    (fun i _ => z.length - (intOf i).toNat)
  case atStart => exact ⟨0, Nat.zero_le _, rfl, Below.refl _ _⟩
  case round =>
    obtain ⟨k, hk, rfl, hb⟩ := hrel
    have HBW := Lib.hid hb
    clear hb
    by_cases hlt : k < z.length
    · rcases HA.out.below HBW.out (Nat.le_refl _) with h | ⟨b1, o1, rfl, hc1⟩
      · rw [h] at hlt; exact absurd hlt (Nat.not_lt_zero _)
      rcases HB.out.below HBW.out (Nat.le_refl _) with h | ⟨b2, o2, rfl, hc2⟩
      · rw [h] at hlt; exact absurd hlt (Nat.not_lt_zero _)
      obtain ⟨a1, c1, g1, g2, i1⟩ := hc1 k hlt
      obtain ⟨a2, c2, g3, g4, i2⟩ := hc2 k hlt
      have hi : ((k : Int)) < (z.length : Int) := by omega
      have I1 := Lib.hid i1
      have I2 := Lib.hid i2
      have hll := HL.out.r k hlt
      obtain ⟨wo, hwo⟩ : ∃ wo : World, wo = wr := ⟨_, rfl⟩
      subst hwo
      have MK := Lib.hid (show ∀ w' : World, Below wo.heap.size wo w' → Below wo.heap.size wo w' ∧ w'.cell? ⟨b1, o1 + k * 2, none⟩ = some (.int .i64 (sec z k)) ∧ w'.cell? ⟨b1, o1 + k * 2 + 1, none⟩ = some (.slice a1 (shs z k).length c1) ∧ w'.cell? ⟨b2, o2 + k * 2, none⟩ = some (.int .i64 (sec z k)) ∧ w'.cell? ⟨b2, o2 + k * 2 + 1, none⟩ = some (.slice a2 (shs z k).length c2) from fun w' h => ⟨h, cell_step h g1, cell_step h g2, cell_step h g3, cell_step h g4⟩)
      clear hc1 hc2 i1 i2
      go_wp2_with fail
      go_region_held3 (fun w' => Below wo.heap.size wo w' ∧ w'.cell? ⟨b1, o1 + k * 2, none⟩ = some (.int .i64 (sec z k)) ∧ w'.cell? ⟨b1, o1 + k * 2 + 1, none⟩ = some (.slice a1 (shs z k).length c1) ∧ w'.cell? ⟨b2, o2 + k * 2, none⟩ = some (.int .i64 (sec z k)) ∧ w'.cell? ⟨b2, o2 + k * 2 + 1, none⟩ = some (.slice a2 (shs z k).length c2)) (first | exact MK.out _ (drew_step _) | exact MK.out _ (chain (‹Below wo.heap.size wo _ ∧ _›).1 hb) | fail) ((go_at_call 79; have KK := (‹Below wo.heap.size wo _ ∧ _›).1; refine (eqRow_same (sec z k) _ _ (shs z k) _ _ _ (I1.out.step KK) (I2.out.step KK) hll).mono ?_; rintro e wf ⟨rfl, hb⟩))
      all_goals (
        have KF := Lib.hid (chain HBW.out (‹Below wo.heap.size wo _ ∧ _›).1)
        go_wp2
        go_roundw
        case rel => exact ⟨k + 1, by omega, by go_num, KF.out⟩
        case measure => simp [intOf]; omega)
    · go_wp2
      go_ret
      exact ⟨rfl, HBW.out⟩

set_option maxRecDepth 100000 in
/-- 'eqTable' at one table twice: true. -/
theorem eqTable_same (h : Int) (ao bo : Option Addr) (yo : List Int) (co eo : Nat) (a b : Option Addr) (z : List (List Int)) (ca cb : Nat) (w : World) (ha : InT w ao yo a z) (hb : InT w bo yo b z) (hl : LenT yo z) :
    Calls Tryd.prog 13 #[.agg #[.int .i64 h, .slice ao yo.length co, .slice a z.length ca], .agg #[.int .i64 h, .slice bo yo.length eo, .slice b z.length cb]] w fun e w' => e = .returned (.bool true) ∧ Below w.heap.size w w' := by
  have HL := Lib.hid hl
  have hb1 := ((Below.refl w.heap.size w).alloc (Nat.le_refl _) (.cells #[.int .i64 h, .slice ao yo.length co, .slice a z.length ca] 30)).alloc (by simp) (.cells #[.int .i64 h, .slice bo yo.length eo, .slice b z.length cb] 30)
  have HB1 := Lib.hid hb1
  have HA := Lib.hid (ha.step hb1)
  have HB := Lib.hid (hb.step hb1)
  clear hl ha hb hb1
  go_enter Tryd.func13, Tryd.ntmps13
  go_wp2_with fail
  refine (eqInt64S_same ao bo yo co eo _ HA.out.o HB.out.o HL.out.o).mono ?_
  rintro e w1 ⟨rfl, ⟨n, rfl⟩⟩
  have HA2 := Lib.hid (HA.out.quiet ⟨n, rfl⟩)
  have HB2 := Lib.hid (HB.out.quiet ⟨n, rfl⟩)
  have HB3 := Lib.hid (below_drewN HB1.out n)
  clear HA HB HB1
  go_wp2_with fail
  refine (eqRowS_same a b z ca cb _ HA2.out.r HB2.out.r HL.out.r).mono ?_
  rintro e w2 ⟨rfl, hb4⟩
  have HB4 := Lib.hid (chain HB3.out hb4)
  clear hb4
  go_wp2_with fail
  go_ret
  exact ⟨rfl, HB4.out⟩

section
variable {H : Type} {enc : TypeId × Value → H} {w : World} {base : Nat} {held : Bool}
set_option maxRecDepth 100000 in
theorem open_rowsT {fuel : Nat} {a0 : Option Addr} {n c : Nat} {x : DataW H × List MemPlace} (h : DataW.trod enc Tryd.prog w base (fun _ => true) held fuel 23 [.slice a0 n c] = some x) :
    ∃ z, n = z.length ∧ RowsT w a0 z ∧ LensR z ∧ Full z := by
  rcases open_slice_pairs Tryd.underlying23 Tryd.underlying104 (by kernel_rfl) (by kernel_rfl) (by kernel_rfl) (by kernel_rfl) (by kernel_rfl) h with ⟨hcs, _⟩ | ⟨a, len, cap, m, fu, V0, V1, D0, D1, P0, P1, hcs, _, hl, hm, hmm, _, hx⟩
  · simp at hcs
    obtain ⟨rfl, rfl, rfl⟩ := hcs
    exact ⟨[], rfl, .inl rfl, ⟨by simp, fun r hr => absurd hr (Nat.not_lt_zero _)⟩, fun r hr => absurd hr (Nat.not_lt_zero _)⟩
  · simp at hcs
    obtain ⟨rfl, rfl, rfl⟩ := hcs
    simp only [if_true] at hmm
    subst hmm
    have hm' : m ≤ 9223372036854775807 := hm
    have each : ∀ i, i < n → ∃ q : Int × Option Addr × List Int × Nat, V0 i = .int .i64 q.1 ∧ V1 i = .slice q.2.1 q.2.2.1.length q.2.2.2 ∧ Ints w q.2.1 q.2.2.1 ∧ q.2.2.1.length ≤ 9223372036854775807 := fun i hi => by
      obtain ⟨_, _, h0, h1⟩ := hx i (by omega)
      have g0 : DataW.trod enc Tryd.prog w base (fun _ => true) held fu 2 [V0 i] = some (D0 i, P0 i) := h0
      have g1 : DataW.trod enc Tryd.prog w base (fun _ => true) held fu 22 [V1 i] = some (D1 i, P1 i) := h1
      obtain ⟨s, e0, _, _⟩ := DataW.trod_int Tryd.underlying2 g0
      simp at e0
      rcases open_slice1 Tryd.underlying22 (by kernel_rfl) g1 with ⟨e, _⟩ | ⟨a1, len, cap, _, _, _, _, _, e, _⟩
      · simp at e
        rw [e] at g1
        obtain ⟨zs, e2, hr, hl⟩ := open_ints1 g1
        exact ⟨(s, none, zs, 0), e0, by rw [e, e2], hr, hl⟩
      · simp at e
        rw [e] at g1
        obtain ⟨zs, e2, hr, hl⟩ := open_ints1 g1
        exact ⟨(s, some a1, zs, cap), e0, by rw [e, e2], hr, hl⟩
    obtain ⟨q, hq⟩ := choose_lt (α := Int × Option Addr × List Int × Nat) each
    have hnth : ∀ r, r < n → nthL ((List.range n).map fun r => (q r).1 :: (q r).2.2.1) r = (q r).1 :: (q r).2.2.1 := fun r hr => by
      rw [nthL_lt (by simpa using hr)]; simp
    refine ⟨(List.range n).map fun r => (q r).1 :: (q r).2.2.1, by simp, ?_, ⟨by simp; omega, fun r hr => ?_⟩, fun r hr => ?_⟩
    · by_cases h0 : n = 0
      · subst h0; exact .inl rfl
      · obtain ⟨b, o, sp⟩ := a
        have hsp : sp = none := by simpa [Addr.add] using World.cell?_spot (hx 0 (by omega)).1
        subst hsp
        refine .inr ⟨b, o, rfl, fun i hi => ?_⟩
        have hi' : i < n := by simpa using hi
        obtain ⟨e0, e1, e2, e3⟩ := hq i hi'
        obtain ⟨k0, k1, _, _⟩ := hx i (by omega)
        unfold sec shs
        rw [hnth i hi']
        rw [e0, add_plain] at k0
        rw [e1, add_plain, ← Nat.add_assoc] at k1
        exact ⟨(q i).2.1, (q i).2.2.2, k0, by simpa using k1, by simpa using e2⟩
    · have hr' : r < n := by simpa using hr
      unfold shs
      rw [hnth r hr']
      simpa using (hq r hr').2.2.2
    · have hr' : r < n := by simpa using hr
      rw [hnth r hr']
      simp
set_option maxRecDepth 100000 in
/-- A TABLE BY VALUE, OPENED. -/
theorem open_tab {r : Reach} {b0 : Nat} {v : Value} {d : DataW H} {p : List MemPlace} (hv : Value.okWide Tryd.prog w r b0 25 v) (h : DataW.Trod enc Tryd.prog w base (fun _ => true) held 25 v d p) :
    ∃ (hh : Int) (ao : Option Addr) (yo : List Int) (co : Nat) (a : Option Addr) (z : List (List Int)) (c : Nat), v = .agg #[.int .i64 hh, .slice ao yo.length co, .slice a z.length c] ∧ InT w ao yo a z ∧ LenT yo z ∧ (Lit.int .i64 hh).wf = true := by
  obtain ⟨c0, c1, c2, y0, y1, y2, m, rfl, _, _, g0, g1, g2⟩ := open_agg3 Tryd.underlying25 (by kernel_rfl) (by kernel_rfl) hv h
  obtain ⟨hh, e0, _, wh⟩ := DataW.trod_int Tryd.underlying2 g0
  simp at e0
  subst e0
  have o1 : ∃ (ao : Option Addr) (yo : List Int) (co : Nat), c1 = .slice ao yo.length co ∧ Ints w ao yo ∧ yo.length ≤ 9223372036854775807 := by
    rcases open_slice1 Tryd.underlying22 (by kernel_rfl) g1 with ⟨e, _⟩ | ⟨a1, len, cap, _, _, _, _, _, e, _⟩
    · simp at e
      subst e
      obtain ⟨zs, e, hr, hl⟩ := open_ints1 g1
      exact ⟨none, zs, 0, by rw [← e], hr, hl⟩
    · simp at e
      subst e
      obtain ⟨zs, e, hr, hl⟩ := open_ints1 g1
      exact ⟨some a1, zs, cap, by rw [e], hr, hl⟩
  have o2 : ∃ (a : Option Addr) (z : List (List Int)) (c : Nat), c2 = .slice a z.length c ∧ RowsT w a z ∧ LensR z ∧ Full z := by
    rcases open_slice Tryd.underlying23 g2 with ⟨e, _⟩ | ⟨a1, len, cap, _, _, _, _, e, _⟩
    · simp at e
      subst e
      obtain ⟨zss, e, hr, hl⟩ := open_rowsT g2
      exact ⟨none, zss, 0, by rw [← e], hr, hl⟩
    · simp at e
      subst e
      obtain ⟨zss, e, hr, hl⟩ := open_rowsT g2
      exact ⟨some a1, zss, cap, by rw [e], hr, hl⟩
  obtain ⟨ao, yo, co, rfl, ho, hlo⟩ := o1
  obtain ⟨a, z, c, rfl, hz, hlz, hfz⟩ := o2
  exact ⟨hh, ao, yo, co, a, z, c, rfl, ⟨ho, hz⟩, ⟨hlo, hlz, hfz⟩, wh⟩
end
end Go.Proofs.YtgndekojodpmkaaDoor

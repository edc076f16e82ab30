/- The texts of families tell them apart; tableOf at a map with one entry; the program's twoTables. -/
import Derived.Test.YteifllengcacbaaDoorTof
import Derived.Deep.RegionWith
namespace Go.Proofs.YteifllengcacbaaDoor
open Go.RowKit Go.Deep Go.Shelf
set_option linter.unusedVariables false

/-! A family's text tells the family. -/
theorem cut_line {l1 l2 r1 r2 : List UInt8} (h1 : ∀ x ∈ l1, x ≠ 10) (h2 : ∀ x ∈ l2, x ≠ 10) (h : l1 ++ 10 :: r1 = l2 ++ 10 :: r2) : l1 = l2 ∧ r1 = r2 := by
  induction l1 generalizing l2 with
  | nil =>
    cases l2 with
    | nil => exact ⟨rfl, (List.cons.inj h).2⟩
    | cons y l2 =>
      have := (List.cons.inj h).1
      exact absurd this.symm (h2 y (by simp))
  | cons x l1 ih =>
    cases l2 with
    | nil =>
      have := (List.cons.inj h).1
      exact absurd this (h1 x (by simp))
    | cons y l2 =>
      obtain ⟨e1, e2⟩ := List.cons.inj h
      obtain ⟨e3, e4⟩ := ih (fun z hz => h1 z (by simp [hz])) (fun z hz => h2 z (by simp [hz])) e2
      exact ⟨by rw [e1, e3], e4⟩

def letter (z : Int) : UInt8 := UInt8.ofNat (65 + z).toNat
theorem letter_fact : ∀ z : Fin 7, letter (z.val : Int) = UInt8.ofNat (65 + z.val) := by decide
theorem letter_inj_fact : ∀ a b : Fin 7, letter (a.val : Int) = letter (b.val : Int) → a = b := by decide
theorem letter_ne_fact : ∀ a : Fin 7, letter (a.val : Int) ≠ 10 ∧ letter (a.val : Int) ≠ 45 := by decide
theorem letter_inj {a b : Int} (ha : 0 ≤ a ∧ a ≤ 6) (hb : 0 ≤ b ∧ b ≤ 6) (h : letter a = letter b) : a = b := by
  obtain ⟨n, rfl⟩ : ∃ n : Nat, a = n := ⟨a.toNat, by omega⟩
  obtain ⟨m, rfl⟩ : ∃ m : Nat, b = m := ⟨b.toNat, by omega⟩
  have := letter_inj_fact ⟨n, by omega⟩ ⟨m, by omega⟩ h
  have := congrArg Fin.val this
  simp only at this
  omega
theorem letter_ne {a : Int} (ha : 0 ≤ a ∧ a ≤ 6) : letter a ≠ 10 ∧ letter a ≠ 45 := by
  obtain ⟨n, rfl⟩ : ∃ n : Nat, a = n := ⟨a.toNat, by omega⟩
  exact letter_ne_fact ⟨n, by omega⟩
theorem textOf_list (zs : List Int) : (textOf zs).data.toList = if zs = [] then [45] else zs.map letter := by
  unfold textOf
  split
  · rfl
  · rw [strOfNums_data, letters, List.map_map]
    rfl
theorem map_letter_inj {xs ys : List Int} (hx : ∀ z ∈ xs, 0 ≤ z ∧ z ≤ 6) (hy : ∀ z ∈ ys, 0 ≤ z ∧ z ≤ 6) (h : xs.map letter = ys.map letter) : xs = ys := by
  induction xs generalizing ys with
  | nil =>
    cases ys with
    | nil => rfl
    | cons y ys => simp at h
  | cons x xs ih =>
    cases ys with
    | nil => simp at h
    | cons y ys =>
      simp only [List.map_cons, List.cons.injEq] at h
      rw [letter_inj (hx x (by simp)) (hy y (by simp)) h.1, ih (fun z hz => hx z (by simp [hz])) (fun z hz => hy z (by simp [hz])) h.2]
theorem textOf_inj {xs ys : List Int} (hx : ∀ z ∈ xs, 0 ≤ z ∧ z ≤ 6) (hy : ∀ z ∈ ys, 0 ≤ z ∧ z ≤ 6) (h : (textOf xs).data.toList = (textOf ys).data.toList) : xs = ys := by
  rw [textOf_list, textOf_list] at h
  by_cases ex : xs = []
  · by_cases ey : ys = []
    · rw [ex, ey]
    · rw [if_pos ex, if_neg ey] at h
      cases ys with
      | nil => exact absurd rfl ey
      | cons y ys => exact absurd (List.cons.inj h).1.symm (letter_ne (hy y (by simp))).2
  · by_cases ey : ys = []
    · rw [if_neg ex, if_pos ey] at h
      cases xs with
      | nil => exact absurd rfl ex
      | cons x xs => exact absurd (List.cons.inj h).1 (letter_ne (hx x (by simp))).2
    · rw [if_neg ex, if_neg ey] at h
      exact map_letter_inj hx hy h
theorem textOf_no10 {xs : List Int} (hx : ∀ z ∈ xs, 0 ≤ z ∧ z ≤ 6) : ∀ b ∈ (textOf xs).data.toList, b ≠ 10 := by
  rw [textOf_list]
  split
  · intro b hb
    simp at hb
    subst hb
    decide
  · intro b hb
    obtain ⟨z, hz, rfl⟩ := List.mem_map.1 hb
    exact (letter_ne (hx z hz)).1
theorem rowsText_inj {xs ys : List (List Int)} (hx : ∀ g ∈ xs, ∀ z ∈ g, 0 ≤ z ∧ z ≤ 6) (hy : ∀ g ∈ ys, ∀ z ∈ g, 0 ≤ z ∧ z ≤ 6) (h : rowsText xs = rowsText ys) : xs = ys := by
  induction xs generalizing ys with
  | nil =>
    cases ys with
    | nil => rfl
    | cons y ys => simp [rowsText, rowText] at h
  | cons x xs ih =>
    cases ys with
    | nil => simp [rowsText, rowText] at h
    | cons y ys =>
      simp only [rowsText, List.map_cons, List.flatten_cons, rowText, List.append_assoc, List.singleton_append] at h
      obtain ⟨e1, e2⟩ := cut_line (textOf_no10 (hx x (by simp))) (textOf_no10 (hy y (by simp))) h
      rw [textOf_inj (hx x (by simp)) (hy y (by simp)) e1, ih (fun g hg => hx g (by simp [hg])) (fun g hg => hy g (by simp [hg])) e2]
theorem head_fact : ∀ a b : Fin 8, 1 ≤ a.val → 1 ≤ b.val → (famHead a.val).length = 9 ∧ (famHead a.val = famHead b.val → a = b) := by decide +kernel
theorem grp_mem6 {h : Int} {zs : List Int} (hg : IsGrp h zs) (h7 : h ≤ 7) : ∀ z ∈ zs, 0 ≤ z ∧ z ≤ 6 := by
  intro z hz
  obtain ⟨i, hi, rfl⟩ := List.mem_iff_getElem.1 hz
  have := hg i hi
  rw [← nth_lt hi]
  exact ⟨this.1, by have := this.2.1; omega⟩
theorem fam_mem {h : Int} {zss : List (List Int)} (hf : FamOk h zss) : ∀ g ∈ zss, ∀ z ∈ g, 0 ≤ z ∧ z ≤ 6 := by
  intro g hg
  obtain ⟨i, hi, rfl⟩ := List.mem_iff_getElem.1 hg
  have := (hf.2.1 i hi).1
  rw [nthL_lt hi] at this
  exact grp_mem6 this hf.1.2
theorem famText_inj {h1 h2 : Int} {z1 z2 : List (List Int)} (f1 : FamOk h1 z1) (f2 : FamOk h2 z2) (h : famTextV h1 z1 = famTextV h2 z2) : h1 = h2 ∧ z1 = z2 := by
  rw [famTextV, famTextV, if_pos (tell_true f1), if_pos (tell_true f2)] at h
  have e0 : famText h1.toNat z1 = famText h2.toNat z2 := by
    have := congrArg (fun b : ByteArray => b.data.toList) h
    simpa using this
  have a1 := f1.1
  have a2 := f2.1
  obtain ⟨n1, rfl⟩ : ∃ n : Nat, h1 = n := ⟨h1.toNat, by omega⟩
  obtain ⟨n2, rfl⟩ : ∃ n : Nat, h2 = n := ⟨h2.toNat, by omega⟩
  rw [Int.toNat_natCast, Int.toNat_natCast] at e0
  obtain ⟨l1, k1⟩ := head_fact ⟨n1, by omega⟩ ⟨n2, by omega⟩ (by simp only; omega) (by simp only; omega)
  obtain ⟨l2, -⟩ := head_fact ⟨n2, by omega⟩ ⟨n1, by omega⟩ (by simp only; omega) (by simp only; omega)
  simp only at l1 l2 k1
  obtain ⟨e1, e2⟩ := List.append_inj e0 (by rw [l1, l2])
  have := congrArg Fin.val (k1 e1)
  simp only at this
  subst this
  exact ⟨rfl, rowsText_inj (fam_mem f1) (fam_mem f2) e2⟩
theorem famText_ne {h : Int} {zss : List (List Int)} (f : FamOk h zss) {h2 : Int} {z2 : List (List Int)} (f2 : ¬ FamOk h2 z2) : famTextV h2 z2 ≠ famTextV h zss := by
  intro e
  rw [famTextV, famTextV, if_pos (tell_true f), if_neg (by rw [tell_false f2]; simp)] at e
  have := congrArg ByteArray.size e
  simp [famText, famHead, ByteArray.size] at this

/-! A map with one entry. -/
theorem ba_self (s : ByteArray) : (s == s) = true := by
  obtain ⟨a⟩ := s
  show (a == a) = true
  simp
theorem ba_ne {s t : ByteArray} (h : s ≠ t) : (s == t) = false := by
  obtain ⟨a⟩ := s
  obtain ⟨b⟩ := t
  show (a == b) = false
  simpa using fun e => h (by rw [e])
theorem run_lookup_hit {P : Program} (mty kt et : TypeId) (r clock born : Nat) (s : ByteArray) (v : Value) (w : World) (hm : P.underlying mty = some (.map kt et)) (hk : P.underlying kt = some .string) (hb : w.heap[r]? = some (.map #[{ key := .string s, val := v, born := born }] clock)) :
    (Instr.lookup mty (.map (some r)) (.string s) false).run P w = .ok v w := by
  have hf : Instr.findNow .string (.string s) [({ key := .string s, val := v, born := born } : MapEntry)] 0 = some (some (0, v)) := by simp [Instr.findNow, Instr.sameNow, ba_self]
  have hc : (Instr.checkKey false 10000 kt (.string s)).run P w = .ok () w := MapKept.run_checkKey (k := .string s) hk (by simp [MapKept.IsKey]) false 9999
  simp [Instr.lookup, run_underlying hm, MapKept.run_getObj_map hb, hc, MapKept.run_findKey hk hf, Result.andThen]
theorem findNow_miss {s t : ByteArray} (h : s ≠ t) (v : Value) (born : Nat) : Instr.findNow .string (.string s) [({ key := .string t, val := v, born := born } : MapEntry)] 0 = some none := by
  have := ba_ne h
  simp [Instr.findNow, Instr.sameNow, this]
theorem run_lookup_miss {P : Program} (mty kt et : TypeId) (r clock born : Nat) (s t : ByteArray) (v z : Value) (w : World) (hm : P.underlying mty = some (.map kt et)) (hk : P.underlying kt = some .string) (hz : (zeroValue et).run P w = .ok z w) (hb : w.heap[r]? = some (.map #[{ key := .string t, val := v, born := born }] clock)) (hne : s ≠ t) :
    (Instr.lookup mty (.map (some r)) (.string s) false).run P w = .ok z w := by
  have hf := findNow_miss hne v born
  have hc : (Instr.checkKey false 10000 kt (.string s)).run P w = .ok () w := MapKept.run_checkKey (k := .string s) hk (by simp [MapKept.IsKey]) false 9999
  simp [Instr.lookup, run_underlying hm, MapKept.run_getObj_map hb, hc, MapKept.run_findKey hk hf, hz, Result.andThen]
theorem run_mapUpdate_second {P : Program} (w : World) (mty kt et : TypeId) (r clock born : Nat) (s t : ByteArray) (v val : Value) (hm : P.underlying mty = some (.map kt et)) (hk : P.underlying kt = some .string) (hb : w.heap[r]? = some (.map #[{ key := .string t, val := v, born := born }] clock)) (hne : s ≠ t) :
    (Instr.mapUpdate mty (.map (some r)) (.string s) val).run P w = .ok () (putMap w r (.map #[{ key := .string t, val := v, born := born }, { key := .string s, val := val, born := clock }] (clock + 1))) := by
  have hf := findNow_miss hne v born
  have hc : (Instr.checkKey false 10000 kt (.string s)).run P w = .ok () w := MapKept.run_checkKey (k := .string s) hk (by simp [MapKept.IsKey]) false 9999
  simp [Instr.mapUpdate, run_underlying hm, MapKept.run_getObj_map hb, hc, MapKept.run_findKey hk hf, MapKept.run_setObj_map _ hb, Result.andThen, putMap]

/-- What gives a family's table where one has been kept. -/
structure GivesTable2 (r T1 : Nat) (h1 : Int) (z1 : List (List Int)) (W : World) (h : Int) (zss : List (List Int)) (e : Ending) (w' : World) : Prop where
  yes : FamOk h zss → ∃ T, e = .returned (.pointer (some ⟨T, 0, none⟩)) ∧ TableAt w' T h.toNat (tabOf h zss)
  no : ¬ FamOk h zss → e = .returned (.pointer none)
  t1 : TableAt w' T1 h1.toNat (tabOf h1 z1)
  below : Below r W w'

set_option maxHeartbeats 1000000 in
set_option maxRecDepth 100000 in
theorem shelfTable2_any (r clock T1 : Nat) (h1 : Int) (z1 : List (List Int)) (h : Int) (a : Option Addr) (zss : List (List Int)) (c : Nat) (w : World) (hb : w.heap[r]? = some (.map #[{ key := .string (famTextV h1 z1), val := .pointer (some ⟨T1, 0, none⟩), born := clock }] (clock + 1)))
    (hf1 : FamOk h1 z1) (ht1 : TableAt w T1 h1.toNat (tabOf h1 z1)) (hrT : r ≠ T1) (hr : Rows2 w a zss) (hs : Small2 zss) :
    Calls Tryd.prog 66 #[.map (some r), .agg #[.int .i64 h, .slice a zss.length c]] w (GivesTable2 r T1 h1 z1 w h zss) := by
  have hrl : r < w.heap.size := (Array.getElem?_eq_some_iff.1 hb).1
  have hll := hs.1
  have hB0 := (Below.refl w.heap.size w).alloc (Nat.le_refl _) (.cells #[.int .i64 h, .slice a zss.length c] 26)
  have HM := Lib.hid ((hB0.block r hrl).trans hb)
  have HT1 := Lib.hid (ht1.step hB0)
  have HA := Lib.hid (hr.step hB0)
  have HB := Lib.hid hB0
  have HF1 := Lib.hid hf1
  have hsz : (w.alloc (.cells #[.int .i64 h, .slice a zss.length c] 26)).heap.size = w.heap.size + 1 := by simp
  clear hb hr hB0 ht1 hf1
  have c0 : (w.alloc (.cells #[.int .i64 h, .slice a zss.length c] 26)).cell? ⟨w.heap.size, 0, none⟩ = some (.int .i64 h) := by simp [go_sem]
  have c1 : (w.alloc (.cells #[.int .i64 h, .slice a zss.length c] 26)).cell? ⟨w.heap.size, 1, none⟩ = some (.slice a zss.length c) := by simp [go_sem]
  go_enter Tryd.func66, Tryd.ntmps66
  go_wp2_with fail
  generalize w.alloc (.cells #[.int .i64 h, .slice a zss.length c] 26) = w1 at *
  refine (implFamText_any h a zss c w1 HA.out hs).mono ?_
  rintro e w2 ⟨rfl, hb2⟩
  have hlt1 : w.heap.size < w1.heap.size := by omega
  have d0 := (hb2.cell (p := ⟨w.heap.size, 0, none⟩) hlt1).trans c0
  have d1 := (hb2.cell (p := ⟨w.heap.size, 1, none⟩) hlt1).trans c1
  have hm2 := (hb2.block r (by omega)).trans HM.out
  have HM2 := Lib.hid hm2
  have HT2 := Lib.hid (HT1.out.step hb2)
  have HA2 := Lib.hid (HA.out.step hb2)
  have HB2 := Lib.hid (HB.out.trans (hb2.mono (Nat.le_of_lt hlt1)))
  have hs2 := hb2.size
  clear hm2 hb2 c0 c1
  by_cases he : famTextV h zss = famTextV h1 z1
  · have hfo : FamOk h zss := Classical.byContradiction fun k => famText_ne HF1.out k he
    obtain ⟨eh, ez⟩ := famText_inj hfo HF1.out he
    have hlk := run_lookup_hit 76 9 57 r (clock + 1) clock (famTextV h zss) (.pointer (some ⟨T1, 0, none⟩)) w2 tblUnder Tryd.underlying9 (by rw [he]; exact HM2.out)
    have HFO := Lib.hid hfo
    have HE := Lib.hid (And.intro eh ez)
    clear he hfo eh ez
    generalize famTextV h zss = tx at *
    go_wp2_with fail
    go_ret
    refine ⟨fun _ => ⟨T1, rfl, ?_⟩, fun k => absurd HFO.out k, HT2.out, HB2.out.mono (Nat.le_of_lt hrl)⟩
    rw [HE.out.1, HE.out.2]
    exact HT2.out
  have hlk := run_lookup_miss 76 9 57 r (clock + 1) clock (famTextV h zss) (famTextV h1 z1) (.pointer (some ⟨T1, 0, none⟩)) (.pointer none) w2 tblUnder Tryd.underlying9 (by kernel_rfl) HM2.out he
  have HNE := Lib.hid he
  clear he
  generalize famTextV h zss = tx at *
  generalize famTextV h1 z1 = tx1 at *
  go_wp2_with fail
  refine (leastSets_any h a zss c w2 HA2.out hs).mono ?_
  rintro e w3 ⟨⟨v, rfl, hrow⟩, hb3⟩
  have e0 := (hb3.cell (p := ⟨w.heap.size, 0, none⟩) (by omega : w.heap.size < w2.heap.size)).trans d0
  have HM3 := Lib.hid ((hb3.block r (by omega)).trans HM2.out)
  have HT3 := Lib.hid (HT2.out.step hb3)
  have HB3 := Lib.hid (HB2.out.trans (hb3.mono (by omega : w.heap.size ≤ w2.heap.size)))
  have hs3 := hb3.size
  clear hb3 hlk d0 d1
  by_cases hf : FamOk h zss
  · have HT := Lib.hid (tell_true hf)
    have HFO := Lib.hid hf
    have hh := hf.1
    have h1' := hh.1
    have h7 := hh.2
    have HSM := Lib.hid (allSmall_bits hf.2.1 h7)
    obtain ⟨a2, c2, rfl, hsets, hlen⟩ := Sets.of_owns (l := bitsUpTo zss zss.length) (by rw [bitsUpTo_len]; exact hrow hf)
    have HSE := Lib.hid hsets
    have HTB := Lib.hid (show tabOf h zss = seenBy (anyIn (bitsUpTo zss zss.length)) (lexAll h.toNat) from rfl)
    clear hf hh hrow hsets
    obtain ⟨m, rfl⟩ : ∃ m : Nat, h = (m : Int) := ⟨h.toNat, by omega⟩
    have m1 : 1 ≤ m := by omega
    have m7 : m ≤ 7 := by omega
    rw [Int.toNat_natCast] at HTB
    generalize bitsUpTo zss zss.length = l at *
    rw [HT.out]
    go_wp2_with fail
    refine (newTable_any m a2 l c2 w3 m1 m7 HSE.out HSM.out hlen).mono ?_
    rintro e w4 ⟨⟨T, rfl, hT, htab⟩, hb4⟩
    have hm4 := (hb4.block r (by omega)).trans HM3.out
    have hmu := run_mapUpdate_second w4 76 9 57 r (clock + 1) clock tx tx1 (.pointer (some ⟨T1, 0, none⟩)) (.pointer (some ⟨T, 0, none⟩)) tblUnder Tryd.underlying9 hm4 HNE.out
    have HTA := Lib.hid htab
    have HT4 := Lib.hid (HT3.out.step hb4)
    have HB4 := Lib.hid (HB3.out.trans (hb4.mono (by omega : w.heap.size ≤ w3.heap.size)))
    have hs4 := hb4.size
    have hr4 : r < w4.heap.size := by omega
    clear hm4 htab hb4 e0
    go_wp2_with fail
    go_ret
    refine ⟨fun _ => ⟨T, rfl, ?_⟩, fun hn => absurd HFO.out hn, HT4.out.other (putMap_other _ hrT), ?_⟩
    · rw [HTB.out, Int.toNat_natCast]
      exact HTA.out.other (putMap_other _ (by omega))
    · exact (HB4.out.mono (Nat.le_of_lt hrl)).trans (putMap_below w4 r _)
  · have HT := Lib.hid (tell_false hf)
    have HFO := Lib.hid hf
    clear hf hrow
    rw [HT.out]
    go_wp2_with fail
    go_ret
    exact ⟨fun hy => absurd hy HFO.out, fun _ => rfl, HT3.out, HB3.out.mono (Nat.le_of_lt hrl)⟩
end Go.Proofs.YteifllengcacbaaDoor

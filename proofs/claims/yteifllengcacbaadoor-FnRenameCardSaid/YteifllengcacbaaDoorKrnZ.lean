/- 'laws.FnRename': for all arguments the program's function gives what the model gives, and writes into nothing that it was given. Tied to the program's text: what the library's tables hold. No other condition. -/
import Derived.Test.YteifllengcacbaaDoorOrd
import Derived.Test.YteifllengcacbaaDoorFgZ
import Derived.Deep.RegionHeld3
import Derived.BigQuiet
import Derived.Test.YteifllengcacbaaDoorOpen
import Derived.Test.YteifllengcacbaaDoorCpf
import Derived.LaidHandle
import Derived.LaidLaws
import Derived.LaidMore
import Derived.Test.YteifllengcacbaaDoorKrnC
import Derived.Test.YteifllengcacbaaDoorKrnD
import Derived.Test.YteifllengcacbaaDoorTie
namespace Go.Proofs.YteifllengcacbaaDoor
open Go.RowKit Go.Deep Go.Shelf
set_option linter.unusedVariables false

/-- What opens for the renamed. -/
def renB (zs : List Int) (zss : List (List Int)) (m y : Nat) : Bool := anyIn (bitsUpTo zss zss.length) (psiN (oOf zs) y m)
noncomputable def renOf (h : Int) (zss : List (List Int)) (zs : List Int) : FR :=
  if tell (FamOk h zss) = true then (if tell (OrdOk h zs) = true then ⟨h, famOf h.toNat (renB zs zss h.toNat), 0⟩ else noFam 2) else noFam 1
theorem ren_bad {h : Int} {zss : List (List Int)} {zs : List Int} (k : ¬ FamOk h zss) : renOf h zss zs = noFam 1 := by rw [renOf, if_neg (by rw [tell_false k]; simp)]
theorem ren_out {h : Int} {zss : List (List Int)} {zs : List Int} (k : FamOk h zss) (o : ¬ OrdOk h zs) : renOf h zss zs = noFam 2 := by rw [renOf, if_pos (tell_true k), if_neg (by rw [tell_false o]; simp)]
theorem ren_yes {m : Nat} {zss : List (List Int)} {zs : List Int} (k : FamOk (m : Int) zss) (o : OrdOk (m : Int) zs) : renOf (m : Int) zss zs = ⟨(m : Nat), famOf m (renB zs zss m), 0⟩ := by rw [renOf, if_pos (tell_true k), if_pos (tell_true o), Int.toNat_natCast]
theorem ren_small (h : Int) (zss : List (List Int)) (zs : List Int) : Small2 (renOf h zss zs).zss := by
  unfold renOf
  split
  · rename_i k
    have := (of_tell k).1
    split
    · exact famOf_small (by omega) _
    · exact lens_small (by simp [noFam]) (by simp [noFam])
  · exact lens_small (by simp [noFam]) (by simp [noFam])
theorem ren_bounds {m : Nat} {zs : List Int} (h7 : m ≤ 7) (o : OrdOk (m : Int) zs) : zs.length = m ∧ ∀ i, i < zs.length → 0 ≤ nth zs i ∧ nth zs i ≤ 6 :=
  ⟨by have := o.1; omega, fun i hi => by have := o.2.1 i hi; omega⟩

set_option maxHeartbeats 1000000 in
set_option maxRecDepth 100000 in
theorem implRe_any (h : Int) (a : Option Addr) (zss : List (List Int)) (c : Nat) (b : Option Addr) (zs : List Int) (d : Nat) (w : World) (hr : Rows2 w a zss) (hl : Small2 zss) (hi : Ints w b zs) (hil : zs.length ≤ 1048576) :
    Calls Tryd.prog 31 #[.agg #[.int .i64 h, .slice a zss.length c], .slice b zs.length d] w (GivesFO w (renOf h zss zs)) := by
  have hB0 := (Below.refl w.heap.size w).alloc (Nat.le_refl _) (.cells #[.int .i64 h, .slice a zss.length c] 26)
  have hB1 := hB0.alloc (by simp) (.cells #[.slice b zs.length d] 28)
  have hB2 := hB1.alloc (by simp; omega) (.cells #[.int .i64 0, .slice none 0 0] 26)
  have d0 : (((w.alloc (.cells #[.int .i64 h, .slice a zss.length c] 26)).alloc (.cells #[.slice b zs.length d] 28)).alloc (.cells #[.int .i64 0, .slice none 0 0] 26)).cell? ⟨w.heap.size, 0, none⟩ = some (.int .i64 h) := by simp [go_sem]
  have d1 : (((w.alloc (.cells #[.int .i64 h, .slice a zss.length c] 26)).alloc (.cells #[.slice b zs.length d] 28)).alloc (.cells #[.int .i64 0, .slice none 0 0] 26)).cell? ⟨w.heap.size + 1, 0, none⟩ = some (.slice b zs.length d) := by simp [go_sem]
  have hF0 : Boxes1 (((w.alloc (.cells #[.int .i64 h, .slice a zss.length c] 26)).alloc (.cells #[.slice b zs.length d] 28)).alloc (.cells #[.int .i64 0, .slice none 0 0] 26)) (w.heap.size + 1 + 1) := by
    have := World.alloc_heap_new ((w.alloc (.cells #[.int .i64 h, .slice a zss.length c] 26)).alloc (.cells #[.slice b zs.length d] 28)) (.cells #[.int .i64 0, .slice none 0 0] 26)
    simpa [Boxes1] using this
  have HA := Lib.hid (hr.step hB2)
  have HI := Lib.hid (hi.step hB2)
  have HL := Lib.hid hl
  have HB := Lib.hid hB2
  have HF := Lib.hid hF0
  have hlt := hF0.lt
  clear hr hl hi hB0 hB1 hB2 hF0
  go_enter Tryd.func31, Tryd.ntmps31
  go_wp2_with fail
  generalize ((w.alloc (.cells #[.int .i64 h, .slice a zss.length c] 26)).alloc (.cells #[.slice b zs.length d] 28)).alloc (.cells #[.int .i64 0, .slice none 0 0] 26) = w1 at *
  refine (tableOf_any h a zss c w1 HA.out HL.out).mono ?_
  rintro e w2 ⟨hy, hn, hb⟩
  have e0 := (hb.cell (p := ⟨w.heap.size, 0, none⟩) (by show w.heap.size < w1.heap.size; omega)).trans d0
  have e1 := (hb.cell (p := ⟨w.heap.size + 1, 0, none⟩) (by show w.heap.size + 1 < w1.heap.size; omega)).trans d1
  have HF2 := Lib.hid (HF.out.step hb)
  have HI2 := Lib.hid (HI.out.step hb)
  have HB2 := Lib.hid (chain HB.out hb)
  have hs2 := hb.size
  clear hb d0 d1
  by_cases hok : FamOk h zss
  case neg =>
    obtain rfl := hn hok
    have HV := Lib.hid (ren_bad (zs := zs) hok)
    have hbT := (Below.refl w2.heap.size w2).alloc (Nat.le_refl _) (.cells #[.pointer none] 57)
    have hf' := HF2.out.step hbT
    have c0 := hf'.c0
    have c1' := hf'.c1
    have f0 := hf'.f 0
    have f1 := hf'.f 1
    have HB3 := Lib.hid (chain HB2.out hbT)
    clear hy hn hok hbT hf' e0 e1
    go_wp2_with fail
    generalize w2.alloc (.cells #[.pointer none] 57) = w3 at *
    refine bodyPost_ret (v := .tuple #[.agg #[.int .i64 0, .slice none 0 0], .int .i64 1]) (by simp [results, Tryd.results31, go_sem, c0, c1']) rfl ?_
    rw [HV.out]
    exact GivesFO.no _ ((HB3.out.setCell (by simp <;> omega) _).setCell (by simp <;> omega) _)
  obtain ⟨T, rfl, hT, htab⟩ := hy hok
  have hh1 : 1 ≤ h := hok.1.1
  have hh7 : h ≤ 7 := hok.1.2
  obtain ⟨m, rfl⟩ : ∃ m : Nat, h = (m : Int) := ⟨h.toNat, by omega⟩
  have m1 : 1 ≤ m := by omega
  have m7 : m ≤ 7 := by omega
  rw [Int.toNat_natCast] at htab
  have HFO := Lib.hid hok
  have hbT := (Below.refl w2.heap.size w2).alloc (Nat.le_refl _) (.cells #[.pointer (some ⟨T, 0, none⟩)] 57)
  have HTA := Lib.hid (htab.step hbT)
  have HI3 := Lib.hid (HI2.out.step hbT)
  have HF3 := Lib.hid (HF2.out.step hbT)
  have HB3 := Lib.hid (chain HB2.out hbT)
  have g0 := cell_step hbT e0
  have g1 := cell_step hbT e1
  have bT : (w2.alloc (.cells #[.pointer (some ⟨T, 0, none⟩)] 57)).cell? ⟨w2.heap.size, 0, none⟩ = some (.pointer (some ⟨T, 0, none⟩)) := by simp [go_sem]
  clear hy hn hok htab hbT e0 e1
  go_wp2_with fail
  generalize w2.alloc (.cells #[.pointer (some ⟨T, 0, none⟩)] 57) = w3 at *
  refine (isOrder_any (m : Int) b zs d w3 (by omega) (by omega) HI3.out hil).mono ?_
  rintro e w' ⟨rfl, rfl⟩
  by_cases ho : OrdOk (m : Int) zs
  case neg =>
    have HV := Lib.hid (ren_out HFO.out ho)
    rw [tell_false ho]
    have c0 := HF3.out.c0
    have c1' := HF3.out.c1
    have f0 := HF3.out.f 0
    have f1 := HF3.out.f 1
    clear ho
    go_wp2_with fail
    refine bodyPost_ret (v := .tuple #[.agg #[.int .i64 0, .slice none 0 0], .int .i64 2]) (by simp [results, Tryd.results31, go_sem, c0, c1']) rfl ?_
    rw [HV.out]
    exact GivesFO.no _ ((HB3.out.setCell (by simp <;> omega) _).setCell (by simp <;> omega) _)
  have HV := Lib.hid (ren_yes HFO.out ho)
  obtain ⟨hlm, hz⟩ := ren_bounds m7 ho
  have HQ := Lib.hid (show famOf m (fun x => tabOf (m : Int) zss (psiN (oOf zs) x zs.length)) = famOf m (renB zs zss m) from famOf_congr m7 fun y hy => by
    show tabOf (m : Int) zss (psiN (oOf zs) y zs.length) = anyIn (bitsUpTo zss zss.length) (psiN (oOf zs) y m)
    unfold tabOf
    rw [Int.toNat_natCast, hlm]
    exact seenBy_all m7 _ (psi_lt ho.ord y))
  have HCH := Lib.hid (Ren_chooses w2.heap.size (w.heap.size + 1) T m d b zs (tabOf (m : Int) zss) w3 bT g1 HI3.out HTA.out (by omega) hz)
  rw [tell_true ho]
  clear ho hz bT
  go_wp2_with fail
  refine (familyWhere_any m _ #[] #[.pointer (some ⟨w2.heap.size, 0, none⟩), .pointer (some ⟨w.heap.size + 1, 0, none⟩)] _ w3 m1 m7 HCH.out).mono ?_
  rintro e w4 ⟨⟨v, us, rfl, hrow, hrows⟩, hb⟩
  rw [famOf_seen m7, HQ.out] at hrow hrows
  obtain ⟨va, vc, hva⟩ := rowForm hrow
  subst hva
  have hZ3 := HF3.out.lt
  have hf' := HF3.out.step hb
  have c0 := hf'.c0
  have c1' := hf'.c1
  have f0 := hf'.f 0
  have f1 := hf'.f 1
  have HR := Lib.hid hrow
  have HRS := Lib.hid hrows
  have HB4 := Lib.hid (chain HB3.out hb)
  have hle : w.heap.size ≤ w3.heap.size := HB3.out.size
  clear hrow hrows hb hf' g0 g1
  generalize famOf m (renB zs zss m) = Z at *
  go_wp2_with fail
  refine bodyPost_ret (v := .tuple #[.agg #[.int .i64 (m : Nat), .slice va Z.length vc], .int .i64 0]) (by simp [results, Tryd.results31, go_sem, c0, c1']) rfl ?_
  rw [HV.out]
  exact ⟨⟨_, us, rfl, ownsRow_mono (row_set (row_set HR.out hZ3 _) hZ3 _) hle, (HRS.out.map fun u zs hu => row_set (row_set hu hZ3 _) hZ3 _).mono hle⟩, (HB4.out.setCell (by simp <;> omega) _).setCell (by simp <;> omega) _⟩
end Go.Proofs.YteifllengcacbaaDoor

namespace Go.Proofs.YteifllengcacbaaDoor
open Go.RowKit Go.Deep Go.Joins
set_option linter.unusedVariables false

theorem vals_atO (zs : List Int) {j : Nat} (h : j < zs.length) : (vals zs)[j]? = some (.int .i64 (nth zs j)) := by
  rw [nth_lt h]; simp [vals, h]
theorem vals_setO (zs : List Int) (j : Nat) (y : Int) : (vals zs).set j (.int .i64 y) = vals (zs.set j y) := by simp [vals, List.map_set]
/-- A row of numbers at a known block. -/
def RowAt (W : World) (base g n cap : Nat) (zs : List Int) : Prop := W.ownsRow base 2 1 (.slice (some ⟨g, 0, none⟩) n cap) n (vals zs) ∧ zs.length = n
theorem RowAt.own {W : World} {base g n cap : Nat} {zs : List Int} (h : RowAt W base g n cap zs) : OwnI W base (.slice (some ⟨g, 0, none⟩) n cap) zs := by
  unfold OwnI; rw [h.2]; exact h.1
theorem RowAt.of {W : World} {base g n cap : Nat} {zs : List Int} (h : OwnI W base (.slice (some ⟨g, 0, none⟩) n cap) zs) (hn : zs.length = n) : RowAt W base g n cap zs := ⟨by
  unfold OwnI at h; rw [hn] at h; exact h, hn⟩
theorem RowAt.cell {W : World} {base g n cap : Nat} {zs : List Int} (h : RowAt W base g n cap zs) {j : Nat} (hj : j < n) : W.cell? ⟨g, j, none⟩ = some (.int .i64 (nth zs j)) := by
  rw [World.ownsRow.cellAt h.1 j (by omega), vals_atO _ (by rw [h.2]; exact hj)]
theorem RowAt.fz {W : World} {base g n cap : Nat} {zs : List Int} (h : RowAt W base g n cap zs) (j : Nat) : W.frozen? ⟨g, j, none⟩ = false := World.ownsRow.frozenAt h.1 j
theorem RowAt.gl {W : World} {base g n cap : Nat} {zs : List Int} (h : RowAt W base g n cap zs) : base ≤ g ∧ g < W.heap.size := row_lt h.1 rfl
theorem RowAt.put {W : World} {base g n cap : Nat} {zs : List Int} (h : RowAt W base g n cap zs) (j : Nat) (v : Int) : RowAt (W.setCell ⟨g, j, none⟩ (.int .i64 v)) base g n cap (zs.set j v) ∧ W.grownBy (W.setCell ⟨g, j, none⟩ (.int .i64 v)) (some g) := by
  obtain ⟨h1, h2⟩ := World.ownsRow.stored h.1 j (.int .i64 v)
  rw [vals_setO] at h1
  exact ⟨⟨h1, by simp [h.2]⟩, h2⟩
theorem RowAt.far {W W' : World} {base g n cap q : Nat} {zs : List Int} (h : RowAt W base g n cap zs) (hg : W.grownBy W' (some q)) (hq : q < base) : RowAt W' base g n cap zs := .of (h.own.far hg hq) h.2
theorem RowAt.step {W W' : World} {base g n cap : Nat} {zs : List Int} (h : RowAt W base g n cap zs) (hb : Below W.heap.size W W') : RowAt W' base g n cap zs := .of (h.own.step hb) h.2
/-- m numbers from 0 on. -/
def rng (m : Nat) : List Int := (List.range m).map fun (i : Nat) => (i : Int)
theorem rng_len (m : Nat) : (rng m).length = m := by simp [rng]
theorem rng_succ (m : Nat) : rng (m + 1) = rng m ++ [(m : Int)] := by simp [rng, List.range_succ]
theorem rng_at (m : Nat) {i : Nat} (h : i < m) : nth (rng m) i = (i : Int) := by
  rw [nth_lt (by rw [rng_len]; exact h)]; simp [rng]
theorem rng_ord (m : Nat) : OrdOk (m : Int) (rng m) := by
  refine ⟨by rw [rng_len], fun i hi => ?_, fun i j hij hj => ?_⟩
  · rw [rng_len] at hi
    rw [rng_at m hi]; omega
  · rw [rng_len] at hj
    rw [rng_at m (by omega), rng_at m hj]; omega
def sg (i k t : Nat) : Nat := if t = k then i else if t = i then k else t
theorem sg_sg (i k t : Nat) : sg i k (sg i k t) = t := by
  unfold sg
  by_cases h1 : t = k
  · subst h1
    rw [if_pos rfl]
    by_cases h2 : i = t
    · subst h2; simp
    · rw [if_neg h2, if_pos rfl]
  · rw [if_neg h1]
    by_cases h2 : t = i
    · subst h2; simp
    · rw [if_neg h2, if_neg h1, if_neg h2]
theorem sg_lt {i k t m : Nat} (hi : i < m) (hk : k < m) (ht : t < m) : sg i k t < m := by
  unfold sg
  by_cases h1 : t = k
  · rw [if_pos h1]; exact hi
  · rw [if_neg h1]
    by_cases h2 : t = i
    · rw [if_pos h2]; exact hk
    · rw [if_neg h2]; exact ht
def swp (r : List Int) (i k : Nat) : List Int := (r.set i (nth r k)).set k (nth r i)
theorem swp_at {r : List Int} {i k t : Nat} (hi : i < r.length) (hk : k < r.length) (ht : t < r.length) : nth (swp r i k) t = nth r (sg i k t) := by
  unfold swp sg
  rw [nth_lt (by simp; exact ht)]
  by_cases h1 : t = k
  · subst h1; rw [if_pos rfl]; simp
  · rw [if_neg h1, List.getElem_set_ne (fun e => h1 e.symm)]
    by_cases h2 : t = i
    · subst h2; rw [if_pos rfl]; simp
    · rw [if_neg h2, List.getElem_set_ne (fun e => h2 e.symm), nth_lt ht]
theorem ord_inj {m : Nat} {r : List Int} (h : OrdOk (m : Int) r) {a b : Nat} (ha : a < m) (hb : b < m) (e : nth r a = nth r b) : a = b := by
  have hl : r.length = m := by have := h.1; omega
  rcases Nat.lt_trichotomy a b with q | q | q
  · exact absurd e (h.2.2 a b q (by omega))
  · exact q
  · exact absurd e.symm (h.2.2 b a q (by omega))
theorem swp_ord {m : Nat} {r : List Int} {i k : Nat} (h : OrdOk (m : Int) r) (hi : i < m) (hk : k < m) : OrdOk (m : Int) (swp r i k) := by
  have hl : r.length = m := by have := h.1; omega
  have hsl : (swp r i k).length = m := by simp [swp, hl]
  refine ⟨by rw [hsl], fun t ht => ?_, fun a b hab hb => ?_⟩
  · rw [hsl] at ht
    rw [swp_at (by omega) (by omega) (by omega)]
    exact h.2.1 _ (by rw [hl]; exact sg_lt hi hk ht)
  · rw [hsl] at hb
    rw [swp_at (by omega) (by omega) (by omega), swp_at (by omega) (by omega) (by omega)]
    intro e
    have h1 := ord_inj h (sg_lt hi hk (by omega)) (sg_lt hi hk hb) e
    have h2 : sg i k (sg i k a) = sg i k (sg i k b) := by rw [h1]
    rw [sg_sg, sg_sg] at h2
    omega
/-- What gives an order of m holders. -/
structure GivesO (w' : World) (m : Nat) (e : Ending) : Prop where
  val : ∃ r a c, e = .returned (.slice a m c) ∧ OrdOk (m : Int) r ∧ r.length = m ∧ Ints w' a r
set_option maxRecDepth 100000 in
set_option maxHeartbeats 2000000 in
theorem A2Order_any (a : Option Addr) (zs : List Int) (c m : Nat) (w : World) (h : Bytes w a zs) (hl : zs.length ≤ 3000) (m1 : 1 ≤ m) (m7 : m ≤ 7) :
    Calls Tryd.prog 30 #[.slice a zs.length c, .int .i64 (m : Nat)] w fun e w' => GivesO w' m e ∧ Below w.heap.size w w' := by
  have HB := Lib.hid h
  clear h
  obtain ⟨i0, hi, hz0, hz1, hz2⟩ := info_parts Tryd.infoInt64
  go_enter Tryd.func30, Tryd.ntmps30
  go_wp2_with fail
  refine (l00From_any a zs c w HB.out hl).mono ?_
  rintro e w1 ⟨rfl, hs1, hb1⟩
  have hq : w.heap.size < w1.heap.size := hs1.low.1
  generalize hqq : w.heap.size = q at *
  have HS1 := Lib.hid hs1
  have HB1 := Lib.hid hb1
  clear hs1 hb1 HB
  go_wp2_with fail
  have hown0 : OwnI (w1.alloc (.cells #[] 2)) w1.heap.size (.slice (some ⟨w1.heap.size, 0, none⟩) 0 0) (rng 0) := by
    exact World.ownsRow_made w1 (base := w1.heap.size) (e := 2) (size := 1) #[] 0 (Nat.le_refl _) (by unfold maxLen; omega) rfl
  have HOW := Lib.hid hown0
  have hba := al_b w1 (.cells #[] 2)
  have HBA := Lib.hid hba
  have HSA := Lib.hid (HS1.out.quiet hba)
  have HLO := Lib.hid HS1.out.low
  have hsa := hba.size
  clear hown0 hba
  generalize w1.alloc (.cells #[] 2) = w4 at *
  generalize (Value.slice (some ⟨w1.heap.size, 0, none⟩) 0 0) = v0 at *
  go_loopw [6, 7] (fun v i wi => ∃ (j : Nat), j ≤ m ∧ i = .int .i64 j ∧ OwnI wi w1.heap.size v (rng j) ∧ Below w1.heap.size w1 wi)
    (fun _ i _ => m - (intOf i).toNat)
  case atStart => exact ⟨0, Nat.zero_le _, rfl, HOW.out, HBA.out⟩
  case round =>
    obtain ⟨j, hj, rfl, ho, hbi⟩ := hrel
    have HOI := Lib.hid ho
    have HBI := Lib.hid hbi
    have hsz := hbi.size
    have HSI := Lib.hid (HS1.out.quiet hbi)
    have hll := rng_len j
    have HLL := Lib.hid hll
    clear ho hbi HOW HSA hll HBA
    by_cases hltj : j < m
    · have hj0 : (j : Int) < (m : Int) := by omega
      go_wp2_with (at_builtin; refine wpList_append_own _ rfl _ _ 28 rfl w1.heap.size 2 i0 (.int .i64 0) 1 8 Tryd.underlying28 hi hz0 hz1 hz2 rfl (by decide) _ _ _ rfl (World.ownsRow.alloc HOI.out _) ⟨wr.heap.size, 0, none⟩ 1 1 [.int .i64 j] rfl rfl (cell_one_new _ _ _) (by simp [Value.oneCell']) (by rw [HLL.out]; unfold maxLen; omega) (by rw [HLL.out]; omega) (by simp; omega) ?_; intro v' w6 hown6 hgrow6 _; have HO6 := Lib.hid hown6; have HGR6 := Lib.hid hgrow6; clear hown6 hgrow6)
      go_wp2_with fail
      go_roundw
      case rel =>
        refine ⟨j + 1, by omega, by go_num, ?_, ?_⟩
        · rw [rng_succ]; unfold OwnI; rw [vals_snoc, List.length_append]; exact HO6.out
        · exact (HBI.out.alloc hsz _).grown HGR6.out (by simp; omega) (fun q hq => (World.ownsRow.lt HOI.out q hq).1)
      case measure => simp [intOf]; omega
    · have hj0 : ¬ (j : Int) < (m : Int) := by omega
      have hE : j = m := by omega
      subst hE
      obtain ⟨va, vc, hv⟩ := rowForm HOI.out
      rw [HLL.out] at hv
      subst hv
      obtain ⟨g, hg⟩ : ∃ g, va = some ⟨g, 0, none⟩ := by
        rcases HOI.out.2 with ⟨h0, hn⟩ | ⟨g, cap, cur, hv, hg, hh, _⟩
        · rw [HLL.out] at hn; omega
        · simp at hv; exact ⟨g, hv.1⟩
      subst hg
      have HR0 := Lib.hid (RowAt.of HOI.out HLL.out)
      have HG0 := Lib.hid (show w1.grownBy wr (some q) from grown_below HBI.out)
      have HO0 := Lib.hid (rng_ord j)
      generalize rng j = r0 at *
      obtain ⟨wo, rfl⟩ : ∃ wo : World, wo = wr := ⟨_, rfl⟩
      clear HOI HLL HBI
      have hm1 : (1 : Int) ≤ (j : Int) := by omega
      go_wp2_with fail
      go_loopw [8, 9, 10] (fun i q9 q10 wi => ∃ (t : Nat) (r : List Int) (kk : Nat), t < j ∧ i = .int .i64 (t : Nat) ∧ OrdOk (j : Int) r ∧ RowAt wi w1.heap.size g j vc r ∧ w1.grownBy wi (some q) ∧ Src wi q a zs c kk ∧ kk + t ≤ j)
        (fun i _ _ _ => (intOf i).toNat)
      case atStart => exact ⟨j - 1, r0, 0, by omega, by go_num, HO0.out, HR0.out, HG0.out, HSI.out, by omega⟩
      case round =>
        obtain ⟨t, r, kk, ht, rfl, hor, hra, hgr, hsr, hkk⟩ := hrel
        have HOR := Lib.hid hor
        have HRA := Lib.hid hra
        have HGR := Lib.hid hgr
        have HSR := Lib.hid hsr
        clear hor hra hgr hsr HR0 HG0 HO0 HSI
        by_cases ht0 : 0 < t
        · have ht1 : (0 : Int) < (t : Int) := by omega
          go_wp2_with fail
          refine (pick_any q a zs c kk ((t : Int) + 1) wr HSR.out (by omega) (by omega) (by omega)).mono ?_
          rintro e w5 ⟨⟨v, rfl, vv0, vv1⟩, ⟨k5, hk5, hs5⟩, hg5⟩
          obtain ⟨k, rfl⟩ : ∃ k : Nat, v = k := ⟨v.toNat, by omega⟩
          have hkt : k ≤ t := by omega
          have hra5 := HRA.out.far hg5 hq
          have HR5 := Lib.hid hra5
          have HS5 := Lib.hid hs5
          have HG5 := Lib.hid (grown_trans HGR.out hg5)
          have x1 := hra5.cell (j := t) (by omega)
          have x2 := hra5.cell (j := k) (by omega)
          have f1 := hra5.fz t
          have f2 := hra5.fz k
          have fl := hra5.gl.2
          have hgb := hra5.gl.1
          have b1 : (t : Int) < (j : Int) := by omega
          have b2 : (k : Int) < (j : Int) := by omega
          clear hra5 hs5 hg5 vv0 vv1
          have HP1 := Lib.hid (HR5.out.put t (nth r k))
          have HP2 := Lib.hid (HP1.out.1.put k (nth r t))
          have HSW := Lib.hid (show OrdOk (j : Int) ((r.set t (nth r k)).set k (nth r t)) from swp_ord HOR.out (by omega) (by omega))
          generalize hA : nth r t = A at *
          generalize hB : nth r k = B at *
          have x3 : (w5.setCell ⟨g, t, none⟩ (.int .i64 B)).cell? ⟨g, k, none⟩ = some (.int .i64 (nth (r.set t B) k)) := HP1.out.1.cell (by omega)
          have f3 : (w5.setCell ⟨g, t, none⟩ (.int .i64 B)).frozen? ⟨g, k, none⟩ = false := HP1.out.1.fz k
          have HKP := Lib.hid ((HS5.out.kept HLO.out HP1.out.2 (fun r hr => by cases hr; omega)).kept HLO.out HP2.out.2 (fun r hr => by cases hr; omega))
          have HGP := Lib.hid (grown_mixd (grown_mixd HG5.out HP1.out.2 (fun r hr => by cases hr; omega)) HP2.out.2 (fun r hr => by cases hr; omega))
          go_wp2_with fail
          go_roundw
          case rel => exact ⟨t - 1, _, k5, by omega, by go_num, HSW.out, HP2.out.1, HGP.out, HKP.out, by omega⟩
          case measure => simp [intOf]; omega
        · have ht1 : ¬ (0 : Int) < (t : Int) := by omega
          go_wp2_with fail
          go_ret
          exact ⟨⟨r, _, vc, rfl, HOR.out, HRA.out.2, Ints_of_own HRA.out.own⟩, below_grown1 HB1.out HGR.out (by omega) (Nat.le_refl _)⟩
end Go.Proofs.YteifllengcacbaaDoor

namespace Go.Proofs.YteifllengcacbaaDoor
open Go.RowKit Go.Deep Go.Joins
set_option linter.unusedVariables false

theorem ren_mono {m : Nat} {zs : List Int} (zss : List (List Int)) (h : OrdOk (m : Int) zs) : Mono m (renB zs zss m) := fun x y hx hy hs hp => by
  have ho := h.ord
  refine tbl_mono m zss zss.length _ _ (psi_lt ho x) (psi_lt ho y) (fun j hj => ?_) hp
  rw [psi_bit] at hj ⊢
  obtain ⟨i, h1, h2, h3⟩ := hj
  exact ⟨i, h1, hs i h2, h3⟩
theorem renG {m : Nat} (a : Option Addr) (zss : List (List Int)) (c : Nat) (b : Option Addr) (zs : List Int) (d : Nat) (w : World) (m1 : 1 ≤ m) (h7 : m ≤ 7) (hl : zs.length = m) (ho : OrdOk (m : Int) zs) (hf : FamOk (m : Int) zss) (hr : Rows2 w a zss) (hi : Ints w b zs) :
    Calls Tryd.prog 31 #[.agg #[.int .i64 (m : Nat), .slice a zss.length c], .slice b m d] w fun e w' => GF w' m (renB zs zss m) e ∧ Below w.heap.size w w' := by
  have h := implRe_any (m : Int) a zss c b zs d w hr (fam_small h7 hf) hi (by omega)
  rw [ren_yes hf ho, hl] at h
  exact h.mono fun e w' g => ⟨GF.of m1 h7 (ren_mono zss ho) g, g.below⟩
/-- One order turned round. -/
def Turned (m : Nat) (r b : List Int) : Prop := b.length = m ∧ ∀ i, i < m → nth b (nth r i).toNat = (i : Int)
theorem ord_len {m : Nat} {r : List Int} (h : OrdOk (m : Int) r) : r.length = m := by have := h.1; omega
theorem ord_at {m : Nat} {r : List Int} (h : OrdOk (m : Int) r) {i : Nat} (hi : i < m) : 0 ≤ nth r i ∧ nth r i < (m : Int) := h.2.1 i (by rw [ord_len h]; exact hi)
theorem turned_at {m : Nat} {r b : List Int} (h : OrdOk (m : Int) r) (ht : Turned m r b) {j : Nat} (hj : j < m) : ∃ i, i < m ∧ nth b j = (i : Int) ∧ oOf r i = j := by
  obtain ⟨i, h1, h2⟩ := h.ord.surj j hj
  refine ⟨i, h1, ?_, h2⟩
  have := ht.2 i h1
  unfold oOf at h2
  rw [h2] at this
  exact this
theorem turned_ord {m : Nat} {r b : List Int} (h : OrdOk (m : Int) r) (ht : Turned m r b) : OrdOk (m : Int) b := by
  refine ⟨by rw [ht.1], fun j hj => ?_, fun j k hjk hk => ?_⟩
  · rw [ht.1] at hj
    obtain ⟨i, h1, h2, _⟩ := turned_at h ht hj
    rw [h2]; omega
  · rw [ht.1] at hk
    obtain ⟨i, h1, h2, h3⟩ := turned_at h ht (show j < m by omega)
    obtain ⟨i', h1', h2', h3'⟩ := turned_at h ht hk
    rw [h2, h2']
    intro e
    have : i = i' := by omega
    subst this
    omega
theorem turned_o {m : Nat} {r b : List Int} (h : OrdOk (m : Int) r) (ht : Turned m r b) {j : Nat} (hj : j < m) : oOf b j < m ∧ oOf r (oOf b j) = j := by
  obtain ⟨i, h1, h2, h3⟩ := turned_at h ht hj
  have e : oOf b j = i := by unfold oOf; rw [h2]; rfl
  rw [e]
  exact ⟨h1, h3⟩
theorem psi_turn {m : Nat} {r b : List Int} (h : OrdOk (m : Int) r) (ht : Turned m r b) {y : Nat} (hy : y < 2 ^ m) : psiN (oOf r) (psiN (oOf b) y m) m = y := eq_of_bits fun j => by
  rw [psi_bit]
  constructor
  · rintro ⟨i, h1, h2, h3⟩
    rw [psi_bit] at h2
    obtain ⟨k, k1, k2, k3⟩ := h2
    have := (turned_o h ht k1).2
    rw [k3, h3] at this
    rw [this]; exact k2
  · intro hb
    have hj := bit_lt hy hb
    obtain ⟨o1, o2⟩ := turned_o h ht hj
    exact ⟨oOf b j, o1, (psi_bit _ _ _ _).2 ⟨j, hj, hb, rfl⟩, o2⟩
theorem psi_phi_turn {m : Nat} {r b : List Int} (h : OrdOk (m : Int) r) (ht : Turned m r b) {x : Nat} (hx : x < 2 ^ m) : psiN (oOf r) x m = phiN (oOf b) x m := eq_of_bits fun j => by
  rw [psi_bit, phi_bit]
  constructor
  · rintro ⟨i, h1, h2, h3⟩
    have hj : j < m := by rw [← h3]; exact h.ord.lt i h1
    obtain ⟨o1, o2⟩ := turned_o h ht hj
    refine ⟨hj, ?_⟩
    have : oOf b j = i := h.ord.inj _ _ o1 h1 (by rw [o2, h3])
    rw [this]; exact h2
  · rintro ⟨h1, h2⟩
    obtain ⟨o1, o2⟩ := turned_o h ht h1
    exact ⟨oOf b j, o1, h2, o2⟩
end Go.Proofs.YteifllengcacbaaDoor

namespace Go.Proofs.YteifllengcacbaaDoor
open Go.ChangeShapes Go.WideShapes Go.ChangeAt Go.RowKit Go.Deep Go.Joins
set_option linter.unusedVariables false
namespace RenameL

theorem made_row (w : World) (m : Nat) (hm : m ≤ 7) : RowAt (w.alloc (.cells (madeCells #[.int .i64 0] m) 2)) w.heap.size w.heap.size m m (List.replicate m 0) := by
  have h0 := World.rowIs_made w (.int .i64 0) m 2
  have hl : (List.replicate m (0 : Int)).length = m := List.length_replicate
  have h1 : (w.alloc (.cells (madeCells #[.int .i64 0] m) 2)).rowIs w.heap.size 2 (List.replicate m (0 : Int)).length (fun i => .int .i64 (nth (List.replicate m (0 : Int)) i)) := by
    rw [hl]
    obtain ⟨c, h1, h2, h3⟩ := h0
    exact ⟨c, h1, h2, fun i hi => by
      rw [h3 i hi]
      show some (Value.int .i64 0) = some (.int .i64 (nth (List.replicate m (0 : Int)) i))
      rw [nth_lt (by rw [hl]; exact hi)]; simp⟩
  have h2 := own_of_row h1 (by rw [hl]; unfold maxLen; omega)
  have h3 := RowAt.of (n := (List.replicate m (0 : Int)).length) h2 rfl
  rw [hl] at h3
  exact h3
set_option maxRecDepth 100000 in
set_option maxHeartbeats 8000000 in
theorem law (a0 : Option Addr) (z0 : List Int) (c0 : Nat) (a1 : Option Addr) (z1 : List Int) (c1 : Nat) (w : World) (hr0 : Bytes w a0 z0) (hl0 : z0.length ≤ 9223372036854775807) (hr1 : Bytes w a1 z1) (hl1 : z1.length ≤ 9223372036854775807) :
    Calls Tryd.prog 7 #[.slice a0 z0.length c0, .slice a1 z1.length c1] w fun e w' => e = .returned (.bool true) ∧ Below w.heap.size w w' := by
  have R0 := Lib.hid hr0
  have R1 := Lib.hid hr1
  clear hr0 hr1
  by_cases hlong : 3000 < z0.length ∨ 3000 < z1.length
  · have HT := Lib.hid (tell_true hlong)
    clear hlong
    go_enter Tryd.func7, Tryd.ntmps7
    go_wp2_with fail
    refine (a2Long_any a0 a1 z0 z1 c0 c1 w).mono ?_
    rintro e w' ⟨rfl, rfl⟩
    rw [HT.out]
    go_wp2_with fail
    go_ret
    exact ⟨rfl, Below.refl _ _⟩
  have HT := Lib.hid (tell_false hlong)
  have s0 : z0.length ≤ 3000 := by omega
  have s1 : z1.length ≤ 3000 := by omega
  clear hlong
  obtain ⟨i0, hi, hz0, hz1, hz2⟩ := info_parts Tryd.infoInt64
  go_enter Tryd.func7, Tryd.ntmps7
  go_wp2_with fail
  refine (a2Long_any a0 a1 z0 z1 c0 c1 w).mono ?_
  rintro e w' ⟨rfl, rfl⟩
  rw [HT.out]
  have HBW := Lib.hid (Below.refl w.heap.size w)
  go_wp2_with fail
  refine (A2Family_any a0 z0 c0 w R0.out s0).mono ?_
  rintro e w1 ⟨⟨m, m1, m5, ⟨fa, fz, fc, rfl, hok, hr⟩⟩, hb⟩
  replace R0 := Lib.hid (R0.out.step hb)
  replace R1 := Lib.hid (R1.out.step hb)
  replace HBW := Lib.hid (chain HBW.out hb)
  have HOF := Lib.hid hok
  have HRF := Lib.hid hr
  clear hb hok hr
  have m7 : m ≤ 7 := by omega
  have hba := al_b w1 (.cells #[.int .i64 (m : Nat), .slice fa fz.length fc] 26)
  have hx : Boxes (w1.alloc (.cells #[.int .i64 (m : Nat), .slice fa fz.length fc] 26)) w1.heap.size 26 #[.int .i64 (m : Nat), .slice fa fz.length fc] := World.alloc_heap_new _ _
  go_wp2_with fail
  replace R0 := Lib.hid (R0.out.step hba)
  replace R1 := Lib.hid (R1.out.step hba)
  replace HRF := Lib.hid (HRF.out.step hba)
  replace HBW := Lib.hid (chain HBW.out hba)
  have HXF := Lib.hid hx
  clear hba hx
  generalize w1.alloc (.cells #[.int .i64 (m : Nat), .slice fa fz.length fc] 26) = w2 at *
  generalize w1.heap.size = Fo at *
  have aF0 := HXF.out.c0
  have aF1 := HXF.out.c1
  have aFl := HXF.out.lt
  refine (A2Order_any a1 z1 c1 m w2 R1.out s1 m1 m7).mono ?_
  rintro e w3 ⟨⟨r, ra, rc, rfl, ho, hl, hi2⟩, hb⟩
  clear aF0 aF1 aFl
  replace R0 := Lib.hid (R0.out.step hb)
  replace R1 := Lib.hid (R1.out.step hb)
  replace HRF := Lib.hid (HRF.out.step hb)
  replace HXF := Lib.hid (HXF.out.step hb)
  replace HBW := Lib.hid (chain HBW.out hb)
  have HO := Lib.hid ho
  have HL := Lib.hid hl
  have HIR := Lib.hid hi2
  clear hb ho hl hi2
  have aF0 := HXF.out.c0
  have aF1 := HXF.out.c1
  have aFl := HXF.out.lt
  go_wp2_with fail
  refine (renG fa fz fc ra r rc w3 m1 m7 HL.out HO.out HOF.out HRF.out HIR.out).mono ?_
  rintro e w4 ⟨⟨ga, gz, gc, rfl, hok, ht, hr⟩, hb⟩
  clear aF0 aF1 aFl
  replace R0 := Lib.hid (R0.out.step hb)
  replace R1 := Lib.hid (R1.out.step hb)
  replace HRF := Lib.hid (HRF.out.step hb)
  replace HXF := Lib.hid (HXF.out.step hb)
  replace HIR := Lib.hid (HIR.out.step hb)
  replace HBW := Lib.hid (chain HBW.out hb)
  have HOG := Lib.hid hok
  have HTG := Lib.hid ht
  have HRG := Lib.hid hr
  clear hb hok ht hr
  have hmk0 := run_make_row' (P := Tryd.prog) 28 2 (.int .i64 0) 8 Tryd.underlying28 Tryd.infoInt64 rfl .i64 .i64 m (by omega) (by omega)
  have hba := al_b w4 (.cells #[.int .i64 (m : Nat), .slice ga gz.length gc] 26)
  have hx : Boxes (w4.alloc (.cells #[.int .i64 (m : Nat), .slice ga gz.length gc] 26)) w4.heap.size 26 #[.int .i64 (m : Nat), .slice ga gz.length gc] := World.alloc_heap_new _ _
  have aF0 := HXF.out.c0
  have aF1 := HXF.out.c1
  have aFl := HXF.out.lt
  go_wp2_with fail
  clear aF0 aF1 aFl
  replace R0 := Lib.hid (R0.out.step hba)
  replace R1 := Lib.hid (R1.out.step hba)
  replace HRF := Lib.hid (HRF.out.step hba)
  replace HXF := Lib.hid (HXF.out.step hba)
  replace HIR := Lib.hid (HIR.out.step hba)
  replace HRG := Lib.hid (HRG.out.step hba)
  replace HBW := Lib.hid (chain HBW.out hba)
  have HXG := Lib.hid hx
  clear hba hx
  have hszG : (w4.alloc (.cells #[.int .i64 (m : Nat), .slice ga gz.length gc] 26)).heap.size = w4.heap.size + 1 := by simp
  generalize w4.alloc (.cells #[.int .i64 (m : Nat), .slice ga gz.length gc] 26) = w5 at *
  generalize w4.heap.size = Go at *
  have aF0 := HXF.out.c0
  have aF1 := HXF.out.c1
  have aFl := HXF.out.lt
  have aG0 := HXG.out.c0
  have aG1 := HXG.out.c1
  have aGl := HXG.out.lt
  clear hmk0
  have hmk := al_b w5 (.cells (madeCells #[.int .i64 0] m) 2)
  have hrw := made_row w5 m m7
  have HMK := Lib.hid hmk
  have HRW := Lib.hid hrw
  have hgl := hrw.gl.2
  clear hmk hrw
  clear aF0 aF1 aFl aG0 aG1 aGl
  generalize w5.alloc (.cells (madeCells #[.int .i64 0] m) 2) = wq at *
  rw [hszG] at HMK HRW hgl
  generalize hgb : Go + 1 = gb at *
  have HGB := Lib.hid (show w5.heap.size = gb from hszG)
  clear hgb hszG
  go_loopw [10] (fun i wi => ∃ (j : Nat) (b : List Int), j ≤ m ∧ i = .int .i64 (j : Nat) ∧ RowAt wi gb gb m m b ∧ (∀ i, i < j → nth b (nth r i).toNat = (i : Int)) ∧ Below gb w5 wi)
    (fun i _ => m - (intOf i).toNat)
  case atStart => exact ⟨0, _, Nat.zero_le _, rfl, HRW.out, fun i hi => absurd hi (Nat.not_lt_zero _), HMK.out⟩
  case round =>
    obtain ⟨j, b, hj, rfl, hrb, hall, hb⟩ := hrel
    have HRB := Lib.hid hrb
    have HALL := Lib.hid hall
    have HBI := Lib.hid hb
    have hbs : Below w5.heap.size w5 wr := by rw [HGB.out]; exact hb
    have HBS := Lib.hid hbs
    have hxf := HXF.out.step hbs
    have aF0 := hxf.c0
    have aF1 := hxf.c1
    have aFl := hxf.lt
    have hgl := hrb.gl.2
    have hrs := HIR.out.step hbs
    clear hrb hall hb hxf HRW HMK hbs
    by_cases hlt : j < m
    · have hi0 : (j : Int) < (m : Int) := by omega
      have hlr := HL.out
      rcases hrs with h0 | ⟨b2, o2, hab, hc⟩
      · rw [h0] at hlr; simp at hlr; omega
      have hcell := hc j (by omega)
      have hcl := World.block_lt_of_cell? _ _ hcell
      obtain ⟨r0, r1⟩ := ord_at HO.out hlt
      obtain ⟨k, hk⟩ : ∃ k : Nat, nth r j = (k : Int) := ⟨(nth r j).toNat, by omega⟩
      have HK := Lib.hid hk
      rw [hk] at hcell r1
      have hkm : k < m := by omega
      have x1 := HRB.out.cell hkm
      have x2 := HRB.out.fz k
      have HP := Lib.hid (HRB.out.put k (j : Int))
      have HN := Lib.hid (show ∀ i, i < j + 1 → nth (b.set k (j : Int)) (nth r i).toNat = (i : Int) from fun i hi => by
        have hbl := HRB.out.2
        by_cases e : i = j
        · subst e
          rw [HK.out, nth_lt (by simp; omega)]
          simp
        · have hne : (nth r i).toNat ≠ k := fun q => by
            obtain ⟨q0, q1⟩ := ord_at HO.out (show i < m by omega)
            have := ord_inj HO.out (show i < m by omega) hlt (by rw [HK.out]; omega)
            omega
          obtain ⟨q0, q1⟩ := ord_at HO.out (show i < m by omega)
          have h9 := HALL.out i (by omega)
          rw [nth_lt (by omega)] at h9
          rw [nth_lt (by simp; omega), List.getElem_set_ne (fun q => hne q.symm)]
          exact h9)
      clear hc hk r0
      subst hab
      generalize hB : nth b k = B at *
      go_wp2_with fail
      go_roundw
      case rel => exact ⟨j + 1, _, by omega, by go_num, HP.out.1, HN.out, HBI.out.setCell (p := ⟨gb, k, none⟩) (Nat.le_refl _) _⟩
      case measure => simp [intOf]; omega
    · have hi0 : ¬ (j : Int) < (m : Int) := by omega
      have hE : j = m := by omega
      subst hE
      have HTU := Lib.hid (show Turned j r b from ⟨HRB.out.2, HALL.out⟩)
      have HOB := Lib.hid (turned_ord HO.out HTU.out)
      have HIB := Lib.hid (Ints_of_own HRB.out.own)
      have hb9 := HBS.out
      have hjj := HRB.out.2
      have HBL := Lib.hid hjj
      clear hjj aF0 aF1 aFl hrs HBI HBS HALL HRB
      replace R0 := Lib.hid (R0.out.step hb9)
      replace R1 := Lib.hid (R1.out.step hb9)
      replace HRF := Lib.hid (HRF.out.step hb9)
      replace HXF := Lib.hid (HXF.out.step hb9)
      replace HIR := Lib.hid (HIR.out.step hb9)
      replace HRG := Lib.hid (HRG.out.step hb9)
      replace HXG := Lib.hid (HXG.out.step hb9)
      replace HBW := Lib.hid (chain HBW.out hb9)
      clear hb9
      have aF0 := HXF.out.c0
      have aF1 := HXF.out.c1
      have aFl := HXF.out.lt
      have aG0 := HXG.out.c0
      have aG1 := HXG.out.c1
      have aGl := HXG.out.lt
      go_wp2_with fail
      refine (renG ga gz gc (some ⟨gb, 0, none⟩) b j wr m1 m7 HBL.out HOB.out HOG.out HRG.out HIB.out).mono ?_
      rintro e w6 ⟨⟨ua, uz, uc, rfl, hok, ht, hr⟩, hb⟩
      clear aF0 aF1 aFl aG0 aG1 aGl
      replace R0 := Lib.hid (R0.out.step hb)
      replace R1 := Lib.hid (R1.out.step hb)
      replace HRF := Lib.hid (HRF.out.step hb)
      replace HXF := Lib.hid (HXF.out.step hb)
      replace HIR := Lib.hid (HIR.out.step hb)
      replace HRG := Lib.hid (HRG.out.step hb)
      replace HXG := Lib.hid (HXG.out.step hb)
      replace HIB := Lib.hid (HIB.out.step hb)
      replace HBW := Lib.hid (chain HBW.out hb)
      have HOU := Lib.hid hok
      have HTU2 := Lib.hid ht
      have HRU := Lib.hid hr
      clear hb hok ht hr
      have hba := al_b w6 (.cells #[.int .i64 (j : Nat), .slice ua uz.length uc] 26)
      have hx : Boxes (w6.alloc (.cells #[.int .i64 (j : Nat), .slice ua uz.length uc] 26)) w6.heap.size 26 #[.int .i64 (j : Nat), .slice ua uz.length uc] := World.alloc_heap_new _ _
      have aF0 := HXF.out.c0
      have aF1 := HXF.out.c1
      have aFl := HXF.out.lt
      have aG0 := HXG.out.c0
      have aG1 := HXG.out.c1
      have aGl := HXG.out.lt
      go_wp2_with fail
      clear aF0 aF1 aFl aG0 aG1 aGl
      replace R0 := Lib.hid (R0.out.step hba)
      replace R1 := Lib.hid (R1.out.step hba)
      replace HRF := Lib.hid (HRF.out.step hba)
      replace HXF := Lib.hid (HXF.out.step hba)
      replace HIR := Lib.hid (HIR.out.step hba)
      replace HRG := Lib.hid (HRG.out.step hba)
      replace HXG := Lib.hid (HXG.out.step hba)
      replace HIB := Lib.hid (HIB.out.step hba)
      replace HRU := Lib.hid (HRU.out.step hba)
      replace HBW := Lib.hid (chain HBW.out hba)
      have HXU := Lib.hid hx
      clear hba hx
      generalize w6.alloc (.cells #[.int .i64 (j : Nat), .slice ua uz.length uc] 26) = w7 at *
      generalize w6.heap.size = Uo at *
      have aF0 := HXF.out.c0
      have aF1 := HXF.out.c1
      have aFl := HXF.out.lt
      have aG0 := HXG.out.c0
      have aG1 := HXG.out.c1
      have aGl := HXG.out.lt
      have aU0 := HXU.out.c0
      have aU1 := HXU.out.c1
      have aUl := HXU.out.lt
      refine (A2Group_any a0 z0 c0 j w7 R0.out s0 m7).mono ?_
      rintro e w8 ⟨⟨x, xa, xc, hx, rfl, hi2⟩, hb⟩
      clear aF0 aF1 aFl aG0 aG1 aGl aU0 aU1 aUl
      replace R0 := Lib.hid (R0.out.step hb)
      replace R1 := Lib.hid (R1.out.step hb)
      replace HRF := Lib.hid (HRF.out.step hb)
      replace HXF := Lib.hid (HXF.out.step hb)
      replace HIR := Lib.hid (HIR.out.step hb)
      replace HRG := Lib.hid (HRG.out.step hb)
      replace HXG := Lib.hid (HXG.out.step hb)
      replace HIB := Lib.hid (HIB.out.step hb)
      replace HRU := Lib.hid (HRU.out.step hb)
      replace HXU := Lib.hid (HXU.out.step hb)
      replace HBW := Lib.hid (chain HBW.out hb)
      have HX := Lib.hid hx
      have HI := Lib.hid hi2
      clear hb hx hi2
      obtain ⟨y, hy⟩ : ∃ y, phiN (oOf b) x j = y := ⟨_, rfl⟩
      have HYL := Lib.hid (show y < 2 ^ j by rw [← hy]; exact phi_lt _ _ _)
      have HYB := Lib.hid (show ∀ h, h < j → y.testBit h = x.testBit (oOf b h) from fun h hh => by
        rw [Bool.eq_iff_iff, ← hy, phi_bit]
        exact ⟨fun q => q.2, fun q => ⟨hh, q⟩⟩)
      have HYP := Lib.hid (show psiN (oOf r) x j = y from (psi_phi_turn HO.out HTU.out HX.out).trans hy)
      have HYF := Lib.hid (listTo_fact j (by omega) y (by have := HYL.out; have := pow_128 m7; omega) HYL.out)
      clear hy
      have aF0 := HXF.out.c0
      have aF1 := HXF.out.c1
      have aFl := HXF.out.lt
      have aG0 := HXG.out.c0
      have aG1 := HXG.out.c1
      have aGl := HXG.out.lt
      have aU0 := HXU.out.c0
      have aU1 := HXU.out.c1
      have aUl := HXU.out.lt
      go_wp2_with fail
      clear aF0 aF1 aFl aG0 aG1 aGl aU0 aU1 aUl
      have hown : OwnI (w8.alloc (.cells #[] 2)) w8.heap.size (.slice (some ⟨w8.heap.size, 0, none⟩) 0 0) (listTo y 0) := World.ownsRow_made w8 #[] 0 (Nat.le_refl _) (by unfold maxLen; omega) rfl
      have HOW := Lib.hid hown
      have HBA := Lib.hid (al_b w8 (.cells #[] 2))
      clear hown
      generalize w8.alloc (.cells #[] 2) = wp at *
      generalize (Value.slice (some ⟨w8.heap.size, 0, none⟩) 0 0) = v0 at *
      obtain ⟨wo, rfl⟩ : ∃ wo : World, wo = wr := ⟨_, rfl⟩
      go_loopw [14, 15] (fun v i wi => ∃ t : Nat, t ≤ j ∧ i = .int .i64 (t : Nat) ∧ OwnI wi w8.heap.size v (listTo y t) ∧ Below w8.heap.size w8 wi)
        (fun _ i _ => j - (intOf i).toNat)
      case atStart => exact ⟨0, Nat.zero_le _, rfl, HOW.out, HBA.out⟩
      case round =>
        obtain ⟨t, ht, rfl, ho, hb⟩ := hrel
        have HOI := Lib.hid ho
        have HBI := Lib.hid hb
        have hsz := hb.size
        have hxf := HXF.out.step hb
        have aF0 := hxf.c0
        have aF1 := hxf.c1
        have aFl := hxf.lt
        have hbs := HIB.out.step hb
        have HIW := Lib.hid (HI.out.step hb)
        have hlk := listTo_len y t
        clear ho hb hxf HOW HBA
        by_cases hlt : t < j
        · have hi0 : (t : Int) < (j : Int) := by omega
          rcases hbs with h0 | ⟨b2, o2, hab, hc⟩
          · have h9 := HBL.out; rw [h0] at h9; simp at h9; omega
          have hcell := hc t (by rw [HBL.out]; exact hlt)
          have hcl := World.block_lt_of_cell? _ _ hcell
          cases hab
          rw [Nat.zero_add] at hcell
          obtain ⟨r0, r1⟩ := ord_at HOB.out hlt
          have hkb : nth b t = ((oOf b t : Nat) : Int) := by unfold oOf; omega
          have HTI := Lib.hid (show tell (nth b t ∈ listOf x) = y.testBit t by rw [hkb, HYB.out t hlt]; exact tell_in m7 HX.out _)
          have HLX := Lib.hid (listTo_len x 7)
          clear hc r0 r1 hkb
          generalize nth b t = z at *
          go_wp2_with fail
          refine (a2Has_any xa (listOf x) xc z wr HIW.out (by have : (listOf x).length ≤ 7 := HLX.out; omega)).mono ?_
          rintro e w' ⟨rfl, rfl⟩
          rw [HTI.out]
          cases hbit : y.testBit t with
          | true =>
            have HT9 := Lib.hid hbit
            clear hbit
            go_wp2_with (at_builtin; refine wpList_append_own _ rfl _ _ 28 rfl w8.heap.size 2 i0 (.int .i64 0) 1 8 Tryd.underlying28 hi hz0 hz1 hz2 rfl (by decide) _ _ _ rfl (World.ownsRow.alloc HOI.out _) ⟨wr.heap.size, 0, none⟩ 1 1 [.int .i64 t] rfl rfl (cell_one_new _ _ _) (by simp [Value.oneCell']) (by unfold maxLen; omega) (by omega) (by simp; omega) ?_; intro v' w9 hown9 hgrow9 _; have HOWN := Lib.hid hown9; have HGROW := Lib.hid hgrow9; clear hown9 hgrow9)
            go_wp2_with fail
            go_roundw
            case rel =>
              refine ⟨t + 1, by omega, by go_num, ?_, ?_⟩
              · rw [listTo_hit HT9.out]; unfold OwnI; rw [vals_snoc, List.length_append]; exact HOWN.out
              · exact (HBI.out.alloc hsz _).grown HGROW.out (by simp; omega) (fun q hq => (World.ownsRow.lt HOI.out q hq).1)
            case measure => simp [intOf]; omega
          | false =>
            have HT9 := Lib.hid hbit
            clear hbit
            go_wp2_with fail
            go_roundw
            case rel =>
              refine ⟨t + 1, by omega, by go_num, ?_, HBI.out⟩
              rw [listTo_miss HT9.out]; exact HOI.out
            case measure => simp [intOf]; omega
        · have hi0 : ¬ (t : Int) < (j : Int) := by omega
          have hE : t = j := by omega
          subst hE
          rw [HYF.out] at HOI
          obtain ⟨oa, oc, hv⟩ := rowForm HOI.out
          subst hv
          have HIO := Lib.hid (Ints_of_own HOI.out)
          have hb9 := HBI.out
          clear aF0 aF1 aFl HIW hbs hlk HOI HBI
          replace R0 := Lib.hid (R0.out.step hb9)
          replace R1 := Lib.hid (R1.out.step hb9)
          replace HRF := Lib.hid (HRF.out.step hb9)
          replace HXF := Lib.hid (HXF.out.step hb9)
          replace HIR := Lib.hid (HIR.out.step hb9)
          replace HRG := Lib.hid (HRG.out.step hb9)
          replace HXG := Lib.hid (HXG.out.step hb9)
          replace HIB := Lib.hid (HIB.out.step hb9)
          replace HRU := Lib.hid (HRU.out.step hb9)
          replace HXU := Lib.hid (HXU.out.step hb9)
          replace HI := Lib.hid (HI.out.step hb9)
          replace HBW := Lib.hid (chain HBW.out hb9)
          clear hb9
          have aF0 := HXF.out.c0
          have aF1 := HXF.out.c1
          have aFl := HXF.out.lt
          have aG0 := HXG.out.c0
          have aG1 := HXG.out.c1
          have aGl := HXG.out.lt
          have aU0 := HXU.out.c0
          have aU1 := HXU.out.c1
          have aUl := HXU.out.lt
          go_wp2_with fail
          refine (mayX ga gz gc xa xc wr m7 HX.out HOG.out HRG.out HI.out).mono ?_
          rintro e w9 ⟨rfl, hb⟩
          clear aF0 aF1 aFl aG0 aG1 aGl aU0 aU1 aUl
          replace R0 := Lib.hid (R0.out.step hb)
          replace R1 := Lib.hid (R1.out.step hb)
          replace HRF := Lib.hid (HRF.out.step hb)
          replace HXF := Lib.hid (HXF.out.step hb)
          replace HIR := Lib.hid (HIR.out.step hb)
          replace HRG := Lib.hid (HRG.out.step hb)
          replace HXG := Lib.hid (HXG.out.step hb)
          replace HIB := Lib.hid (HIB.out.step hb)
          replace HRU := Lib.hid (HRU.out.step hb)
          replace HXU := Lib.hid (HXU.out.step hb)
          replace HI := Lib.hid (HI.out.step hb)
          replace HIO := Lib.hid (HIO.out.step hb)
          replace HBW := Lib.hid (chain HBW.out hb)
          clear hb
          rw [show tblAt gz gz.length x = tblAt fz fz.length y by
            rw [HTG.out x HX.out]
            show tblAt fz fz.length (psiN (oOf r) x t) = _
            rw [HYP.out]]
          have aF0 := HXF.out.c0
          have aF1 := HXF.out.c1
          have aFl := HXF.out.lt
          have aG0 := HXG.out.c0
          have aG1 := HXG.out.c1
          have aGl := HXG.out.lt
          have aU0 := HXU.out.c0
          have aU1 := HXU.out.c1
          have aUl := HXU.out.lt
          go_wp2_with fail
          refine (mayX fa fz fc oa oc w9 m7 HYL.out HOF.out HRF.out HIO.out).mono ?_
          rintro e w10 ⟨rfl, hb⟩
          clear aF0 aF1 aFl aG0 aG1 aGl aU0 aU1 aUl
          replace R0 := Lib.hid (R0.out.step hb)
          replace R1 := Lib.hid (R1.out.step hb)
          replace HRF := Lib.hid (HRF.out.step hb)
          replace HXF := Lib.hid (HXF.out.step hb)
          replace HIR := Lib.hid (HIR.out.step hb)
          replace HRG := Lib.hid (HRG.out.step hb)
          replace HXG := Lib.hid (HXG.out.step hb)
          replace HIB := Lib.hid (HIB.out.step hb)
          replace HRU := Lib.hid (HRU.out.step hb)
          replace HXU := Lib.hid (HXU.out.step hb)
          replace HI := Lib.hid (HI.out.step hb)
          replace HIO := Lib.hid (HIO.out.step hb)
          replace HBW := Lib.hid (chain HBW.out hb)
          clear hb
          generalize tblAt fz fz.length y = bb at *
          have aF0 := HXF.out.c0
          have aF1 := HXF.out.c1
          have aFl := HXF.out.lt
          have aG0 := HXG.out.c0
          have aG1 := HXG.out.c1
          have aGl := HXG.out.lt
          have aU0 := HXU.out.c0
          have aU1 := HXU.out.c1
          have aUl := HXU.out.lt
          go_wp2_with fail
          have HE1 := Lib.hid (show uz = fz from fam_ext m7 HOU.out HOF.out fun q hq => by
            rw [HTU2.out q hq]
            show tblAt gz gz.length (psiN (oOf b) q t) = _
            rw [HTG.out _ (psi_lt HOB.out.ord q)]
            show tblAt fz fz.length (psiN (oOf r) (psiN (oOf b) q t) t) = _
            rw [psi_turn HO.out HTU.out hq])
          refine (sameG ua fa uz fz uc fc w10 m7 HOU.out HOF.out HRU.out HRF.out HE1.out).mono ?_
          rintro e w11 ⟨rfl, hb⟩
          clear aF0 aF1 aFl aG0 aG1 aGl aU0 aU1 aUl
          replace R0 := Lib.hid (R0.out.step hb)
          replace R1 := Lib.hid (R1.out.step hb)
          replace HRF := Lib.hid (HRF.out.step hb)
          replace HXF := Lib.hid (HXF.out.step hb)
          replace HIR := Lib.hid (HIR.out.step hb)
          replace HRG := Lib.hid (HRG.out.step hb)
          replace HXG := Lib.hid (HXG.out.step hb)
          replace HIB := Lib.hid (HIB.out.step hb)
          replace HRU := Lib.hid (HRU.out.step hb)
          replace HXU := Lib.hid (HXU.out.step hb)
          replace HI := Lib.hid (HI.out.step hb)
          replace HIO := Lib.hid (HIO.out.step hb)
          replace HBW := Lib.hid (chain HBW.out hb)
          clear hb
          have aF0 := HXF.out.c0
          have aF1 := HXF.out.c1
          have aFl := HXF.out.lt
          have aG0 := HXG.out.c0
          have aG1 := HXG.out.c1
          have aGl := HXG.out.lt
          have aU0 := HXU.out.c0
          have aU1 := HXU.out.c1
          have aUl := HXU.out.lt
          go_wp2_with fail
          go_ret
          exact ⟨rfl, HBW.out⟩

end RenameL
end Go.Proofs.YteifllengcacbaaDoor

namespace Go.Proofs.YteifllengcacbaaDoor
open Go.ChangeShapes Go.WideShapes Go.ChangeAt Go.RowKit Go.Deep
set_option linter.unusedVariables false
namespace RenameL


theorem door_met (os : Os) (args : Array Value) : laidMetH Tryd.prog Rows.fnRenameRow.laid ((World.doorLaid Tryd.prog 62 os).forCall (fun _ _ => 0) ⟨#[], args, []⟩).memory :=
  laidMetH_of_parts3 (fuel := 8) (laidMet_of_run' 8 (by kernel_rfl) (by kernel_rfl)) (by kernel_rfl) (by kernel_rfl)

set_option maxRecDepth 100000 in
set_option maxHeartbeats 100000000 in
theorem lifted (os : Os) (started : os.Started) (H : Type) (enc : TypeId × Value → H) :
    ReturnsInHanded {} Tryd.checked os 7 .any (fun w args => (Rows.fnRenameSpec.pre enc Tryd.prog Tryd.f7 [] false w args ∧ laidMetH Tryd.prog Rows.fnRenameRow.laid w) ∧ sizedMet enc Tryd.prog Tryd.f7 (OpenSpec.ofChange Rows.fnRenameSpec) false w args)
      (Rows.fnRenameSpec.post enc Tryd.prog Tryd.f7 false true false false) := by
  refine returnsInHanded_of_change_and (C := Tryd.checked) (X := fun w _ => laidMetH Tryd.prog Rows.fnRenameRow.laid w) (fun _ _ _ hh h => h.of_heap hh) CardP.own started (by kernel_rfl) Tryd.func7
    (ChangeSpec.witness_shaped (enc := enc) (C := Tryd.checked) (os := os) (X := fun w _ => laidMetH Tryd.prog Rows.fnRenameRow.laid w) false (World.doorLaid Tryd.prog 62 os) #[.slice none 0 0, .slice none 0 0] 8 rfl (World.shaped_of_RefB (by kernel_rfl) (by kernel_rfl)) (by kernel_rfl) (by kernel_rfl) (by kernel_rfl) (door_met os _)) ?_
  intro W base args ds gs before hval0 hW _ _ hL _
  have hval : ∀ (j : Nat) t v, Tryd.f7.params[j]? = some t → args[j]? = some v → Value.okWide Tryd.prog W .any base t v := hval0
  have hW' := hW
  obtain ⟨p, q, hA0, hV, rfl, hfz, hnd⟩ := hW
  have hA : DataW.TrodAll enc Tryd.prog W 0 (fun _ => true) true Tryd.f7.params.toList args.toList ds p := hA0
  rw [Tryd.params7] at hA hval
  obtain ⟨v0, vs0, d0, ds0, p0, q0, hargs, rfl, rfl, h0, r0⟩ := trodAll_cons hA
  obtain ⟨v1, vs1, d1, ds1, p1, q1, rfl, rfl, rfl, h1, r1⟩ := trodAll_cons r0
  obtain ⟨rfl, rfl, rfl⟩ := trodAll_nil r1
  obtain rfl : args = #[v0, v1] := by cases args; simp_all
  obtain ⟨rfl, rfl⟩ := trodVars_none hV
  have k0 := h0
  have lt0 : ∀ x ∈ p0, x.block < W.heap.size := by obtain ⟨m, hm⟩ := k0; exact DataW.trod_lt m _ _ _ hm
  obtain ⟨a0, len0, c0, rfl⟩ := okWide_slice Tryd.underlying22 (hval 0 22 v0 rfl rfl)
  obtain ⟨fuel0, hf0⟩ := h0
  obtain ⟨z0, rfl, rr0, ll0⟩ := open_bytes1 (by simpa [Value.cells] using hf0)
  have k1 := h1
  have lt1 : ∀ x ∈ p1, x.block < W.heap.size := by obtain ⟨m, hm⟩ := k1; exact DataW.trod_lt m _ _ _ hm
  obtain ⟨a1, len1, c1, rfl⟩ := okWide_slice Tryd.underlying22 (hval 1 22 v1 rfl rfl)
  obtain ⟨fuel1, hf1⟩ := h1
  obtain ⟨z1, rfl, rr1, ll1⟩ := open_bytes1 (by simpa [Value.cells] using hf1)
  clear hA0 hval0
  refine (law a0 z0 c0 a1 z1 c1 W rr0 ll0 rr1 ll1).mono fun e W' ⟨he, bel⟩ => ?_
  subst he
  exact ⟨_, rfl, _, _, _, [], _, [], hW', trodAll_mk1 (shut_bool Tryd.underlying4 _), (trodAll_cons_mk (Below.trod CardP.laidOut (by kernel_rfl) (of_decide_eq_true (by kernel_rfl)) k0 bel lt0) (trodAll_cons_mk (Below.trod CardP.laidOut (by kernel_rfl) (of_decide_eq_true (by kernel_rfl)) k1 bel lt1) trodAll_mk0)), rfl, bel.frame _, fun h => by cases h⟩


end RenameL
end Go.Proofs.YteifllengcacbaaDoor

namespace Go.Proofs.YteifllengcacbaaDoor
open Go.ChangeShapes Go.WideShapes Go.ChangeAt Go.RowKit Go.Deep
set_option linter.unusedVariables false
namespace RenameL

theorem over : Rows.fnRenameRow.holds Tryd.pinned (OpenSpec.ofChange Rows.fnRenameSpec) :=
  OpenClaim.holds_of_wide 7 Tryd.f7 rfl rfl rfl rfl rfl rfl rfl ⟨rfl, rfl, rfl, rfl, rfl⟩ rfl rfl rfl rfl rfl (by kernel_rfl) Tryd.func7 closed
    (of_decide_eq_true (by kernel_rfl)) (by unfold Func.isWrapper; first | (rw [if_pos (by decide +kernel)]; kernel_rfl) | (rw [if_neg (by decide +kernel)]; exact ⟨rfl, rfl⟩))
    (fun os started H enc _ => lifted os started H enc)

theorem said : Rows.FnRenameSaid := over

end RenameL
end Go.Proofs.YteifllengcacbaaDoor

namespace Go.Proofs.YteifllengcacbaaDoor
open Go.ChangeShapes Go.WideShapes Go.ChangeAt Go.RowKit Go.Deep
set_option linter.unusedVariables false
namespace RenameL

theorem plain (f : FuncId) (fn : Func) (hf : Tryd.pinned.checked.prog.funcNamed "loop.example/g01117/laws.FnRename" = some f) (hfn : Tryd.pinned.checked.prog.funcs[f]? = some fn) :
    false = Tryd.pinned.checked.prog.looks [] ∧ ∀ (j : Nat) t, fn.params[j]? = some t → Tryd.pinned.checked.prog.wantsStandIn t = false := by
  obtain rfl : f = 7 := Option.some.inj (c_named.symm.trans hf) |>.symm
  obtain rfl : fn = Tryd.f7 := (Option.some.inj (Tryd.func7.symm.trans hfn)).symm
  refine ⟨CardP.looks, fun j t ht => ?_⟩
  rw [Tryd.params7] at ht
  have hm : t ∈ [22, 22] := by simpa using Array.mem_of_getElem? ht
  have hall := c_stand
  exact (show Tryd.prog.wantsStandIn t = false by simpa using List.all_eq_true.1 hall t hm)

theorem card : Rows.FnRenameCardSaid :=
  Claim7.holds_tied_plain_at .later [] _ _ _ _ said (fun _ h => by cases h) c_wf (fun _ h => by cases h) fnRename_row_tie rfl ⟨rfl, rfl⟩ c_main rfl plain c_goes

end RenameL
end Go.Proofs.YteifllengcacbaaDoor

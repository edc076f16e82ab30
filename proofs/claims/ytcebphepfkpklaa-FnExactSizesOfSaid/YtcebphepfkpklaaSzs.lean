/- The contracts of SizesOf, the program's and the model's. -/
import Derived.Test.YtcebphepfkpklaaVs
namespace Go.Proofs.Ytcebphepfkpklaa
open Go.RowKit Go.Deep
set_option linter.unusedVariables false

/-- How often a number is among the first ones. -/
def tally (yo : List Int) : Nat → Nat → Int
  | 0, _ => 0
  | k + 1, r => tally yo k r + if nth yo k = (r : Int) then 1 else 0
theorem tally_lo (yo : List Int) (r : Nat) : ∀ k, 0 ≤ tally yo k r
  | 0 => Int.le_refl _
  | k + 1 => by have := tally_lo yo r k; simp only [tally]; split <;> omega
theorem tally_hi (yo : List Int) (r : Nat) : ∀ k : Nat, tally yo k r ≤ k
  | 0 => Int.le_refl _
  | k + 1 => by have := tally_hi yo r k; simp only [tally]; split <;> omega
def sizes (n : Nat) (yo : List Int) : List Int := (List.range n).map fun r => tally yo yo.length r
theorem sizes_len (n : Nat) (yo : List Int) : (sizes n yo).length = n := by simp [sizes]
theorem sizes_nth {n : Nat} (yo : List Int) {r : Nat} (h : r < n) : nth (sizes n yo) r = tally yo yo.length r := by
  rw [nth_lt (by rw [sizes_len]; exact h)]; simp [sizes]
noncomputable def sizesOf (h f l : Int) (yo : List Int) (z : List (List Int)) : List Int := if tell (SchOk h yo f l z) = true then sizes h.toNat yo else []
noncomputable def schCode (h f l : Int) (yo : List Int) (z : List (List Int)) : Int := if tell (SchOk h yo f l z) = true then 0 else 1
theorem sizesOf_len (h f l : Int) (yo : List Int) (z : List (List Int)) : (sizesOf h f l yo z).length ≤ 1048576 := by
  unfold sizesOf
  split
  · next q =>
    rw [sizes_len]
    have := (of_tell q).1
    omega
  · simp

set_option maxRecDepth 100000 in
set_option maxHeartbeats 1000000 in
theorem implSzs_any (h f l : Int) (ao : Option Addr) (yo : List Int) (co : Nat) (a : Option Addr) (z : List (List Int)) (c : Nat) (w : World) (hr : InS w ao yo a z) (hl : LenS yo z) :
    Calls Try.prog 41 #[.agg #[.int .i64 h, .slice ao yo.length co, .int .i64 f, .int .i64 l, .slice a z.length c]] w (GivesIntsCode w (sizesOf h f l yo z) (schCode h f l yo z)) := by
  have hl1 : yo.length ≤ 9223372036854775807 := hl.o
  have HL := Lib.hid hl
  have hb1 := (Below.refl w.heap.size w).alloc (Nat.le_refl _) (.cells #[.int .i64 h, .slice ao yo.length co, .int .i64 f, .int .i64 l, .slice a z.length c] 48)
  have HX := Lib.hid (show Boxes (w.alloc (.cells #[.int .i64 h, .slice ao yo.length co, .int .i64 f, .int .i64 l, .slice a z.length c] 48)) w.heap.size 48 #[.int .i64 h, .slice ao yo.length co, .int .i64 f, .int .i64 l, .slice a z.length c] from World.alloc_heap_new w _)
  have HB1 := Lib.hid hb1
  have HR := Lib.hid (hr.step hb1)
  clear hr hl hb1
  cases hf : tell (SchOk h yo f l z) with
  | false =>
    have HF := Lib.hid hf
    clear hf
    go_enter Try.func41, Try.ntmps41
    go_wp2_with fail
    refine (implVs_any h f l ao yo co a z c _ HR.out HL.out).mono ?_
    generalize w.alloc (.cells #[.int .i64 h, .slice ao yo.length co, .int .i64 f, .int .i64 l, .slice a z.length c] 48) = w1 at *
    rintro e w' ⟨rfl, hq⟩
    rw [HF.out]
    have hb2 := chain HB1.out (hq)
    have hsz := hb2.size
    clear hq
    go_wp2_with fail
    go_ret2
    exact ⟨⟨_, by rw [schCode, HF.out]; rfl, by rw [sizesOf, HF.out]; exact OwnI.nil _ _⟩, hb2⟩
  | true =>
    have hok := of_tell hf
    obtain ⟨n, rfl⟩ : ∃ n : Nat, h = (n : Int) := ⟨h.toNat, by have := hok.1; omega⟩
    have hn1 : 1 ≤ n := by have := hok.1.1; omega
    have hn7 : n ≤ 7 := by have := hok.1.2; omega
    have hn0 : (0 : Int) ≤ (n : Int) := by omega
    have hy20 : yo.length ≤ 20 := by have := hok.2.2.2.1; have := hok.2.1.2.2.1; omega
    have HF := Lib.hid hf
    have HO := Lib.hid hok
    clear hf hok
    go_enter Try.func41, Try.ntmps41
    go_wp2_with fail
    refine (implVs_any (n : Nat) f l ao yo co a z c _ HR.out HL.out).mono ?_
    generalize w.alloc (.cells #[.int .i64 (n : Nat), .slice ao yo.length co, .int .i64 f, .int .i64 l, .slice a z.length c] 48) = w1 at *
    rintro e w3 ⟨rfl, hq⟩
    rw [HF.out]
    have hbq := hq
    have HB3 := Lib.hid (chain HB1.out hbq)
    have HR3 := Lib.hid (HR.out.step hbq)
    have hbx := HX.out.step hbq
    have c0 := hbx.s0
    have c1 := hbx.s1
    have hbl := hbx.lt
    clear hq hbq hbx HX HR HB1
    have hmk := run_make_row' (P := Try.prog) 25 2 (.int .i64 0) 8 Try.underlying25 Try.infoInt64 rfl .i64 .i64 n (by omega) (by omega)
    go_wp2_with fail
    have hr0 := Lib.hid (World.rowIs_made w3 (.int .i64 0) n 2)
    have hB0 := Lib.hid ((Below.refl w3.heap.size w3).alloc (Nat.le_refl _) (.cells (madeCells #[.int .i64 0] n) 2))
    clear hmk
    go_loopw [6, 16] (fun u i wr => ∃ k : Nat, k ≤ yo.length ∧ i = .int .i64 k ∧ wr.rowIs w3.heap.size 2 n (fun r => .int .i64 (tally yo k r)) ∧ Below w3.heap.size w3 wr)
      (fun _ i _ => yo.length - (intOf i).toNat)
    case atStart => exact ⟨0, Nat.zero_le _, rfl, hr0.out.congr (fun i _ => rfl), hB0.out⟩
    case round =>
      obtain ⟨k, hk, rfl, hrow, hbel⟩ := hrel
      clear hr0 hB0
      have HRO := Lib.hid hrow
      have HBE := Lib.hid hbel
      have e1 := (hbel.cell (World.block_lt_of_cell? _ _ c1)).trans c1
      by_cases hlt : k < yo.length
      · rcases HR3.out.o with h | ⟨b, o, rfl, hc⟩
        · rw [h] at hlt; exact absurd hlt (Nat.not_lt_zero _)
        have hown := HO.out.2.2.2.2 k hlt
        obtain ⟨r, hr⟩ : ∃ r : Nat, nth yo k = (r : Int) := ⟨(nth yo k).toNat, by omega⟩
        have hcell : wr.cell? ⟨b, o + k, none⟩ = some (.int .i64 (r : Nat)) := by
          rw [← hr]; exact (hbel.cell (p := ⟨b, o + k, none⟩) (World.block_lt_of_cell? _ _ (hc k hlt))).trans (hc k hlt)
        have hrn : r < n := by omega
        have hrn' : (r : Int) < (n : Int) := by omega
        have hi0 : (k : Int) < (yo.length : Int) := by omega
        have hrc : wr.cell? ⟨w3.heap.size, r, none⟩ = some (.int .i64 (tally yo k r)) := hrow.cell hrn
        have hfr : wr.frozen? ⟨w3.heap.size, r, none⟩ = false := hrow.frozen r
        have ht0 := tally_lo yo r k
        have ht1 := tally_hi yo r k
        have hrow' := (hrow.set r (.int .i64 (tally yo k r + 1))).congr (g := fun q => .int .i64 (tally yo (k + 1) q)) (fun q _ => by
          by_cases e : q = r
          · subst e; simp [tally, hr]
          · have : ¬ (nth yo k = (q : Int)) := by rw [hr]; omega
            simp [tally, e, this])
        have hbel' := hbel.setCell (p := ⟨w3.heap.size, r, none⟩) (Nat.le_refl _) (.int .i64 (tally yo k r + 1))
        generalize tally yo k r = t at hrc ht0 ht1 hrow' hbel'
        have HR' := Lib.hid hrow'
        have HB' := Lib.hid hbel'
        clear hrow hbel hrow' hbel' hc HRO hr hown
        go_wp2_with fail
        go_roundw
        case rel => exact ⟨k + 1, by omega, by go_num, HR'.out, HB'.out⟩
        case measure => simp [intOf]; omega
      · have HE := Lib.hid (show k = yo.length by omega)
        clear hrow hbel
        go_wp2_with fail
        go_ret2
        have e1 : schCode (n : Nat) f l yo z = 0 := by rw [schCode, HF.out]; rfl
        have e2 : sizesOf (n : Nat) f l yo z = sizes n yo := by rw [sizesOf, HF.out]; simp
        rw [e1, e2]
        refine GivesInts.code (w0 := w3) ?_ HB3.out.size (chain HB3.out HBE.out) 0
        have h1 := HRO.out
        rw [HE.out] at h1
        have h2 := own_of_row (zs := sizes n yo) (by rw [sizes_len]; exact h1.congr (fun i hi => by rw [sizes_nth yo hi])) (by rw [sizes_len]; unfold maxLen; omega)
        rw [sizes_len] at h2
        exact h2

set_option maxRecDepth 100000 in
set_option maxHeartbeats 1000000 in
theorem specSzs_any (h f l : Int) (ao : Option Addr) (yo : List Int) (co : Nat) (a : Option Addr) (z : List (List Int)) (c : Nat) (w : World) (hr : InS w ao yo a z) (hl : LenS yo z) :
    Calls Try.prog 40 #[.agg #[.int .i64 h, .slice ao yo.length co, .int .i64 f, .int .i64 l, .slice a z.length c]] w (GivesIntsCode w (sizesOf h f l yo z) (schCode h f l yo z)) := by
  have hl1 : yo.length ≤ 9223372036854775807 := hl.o
  have HL := Lib.hid hl
  have hb1 := (Below.refl w.heap.size w).alloc (Nat.le_refl _) (.cells #[.int .i64 h, .slice ao yo.length co, .int .i64 f, .int .i64 l, .slice a z.length c] 48)
  have HX := Lib.hid (show Boxes (w.alloc (.cells #[.int .i64 h, .slice ao yo.length co, .int .i64 f, .int .i64 l, .slice a z.length c] 48)) w.heap.size 48 #[.int .i64 h, .slice ao yo.length co, .int .i64 f, .int .i64 l, .slice a z.length c] from World.alloc_heap_new w _)
  have HB1 := Lib.hid hb1
  have HR := Lib.hid (hr.step hb1)
  clear hr hl hb1
  cases hf : tell (SchOk h yo f l z) with
  | false =>
    have HF := Lib.hid hf
    clear hf
    go_enter Try.func40, Try.ntmps40
    go_wp2_with fail
    refine (l04Ok_any w.heap.size h f l ao yo co a z c _ HX.out HR.out HL.out).mono ?_
    generalize w.alloc (.cells #[.int .i64 h, .slice ao yo.length co, .int .i64 f, .int .i64 l, .slice a z.length c] 48) = w1 at *
    rintro e w' ⟨rfl, hq⟩
    rw [HF.out]
    have hb2 := chain HB1.out (quiet_below hq)
    have hsz := hb2.size
    clear hq
    go_wp2_with fail
    go_ret2
    refine ⟨⟨_, by rw [schCode, HF.out]; rfl, ?_⟩, hb2.alloc hsz _⟩
    rw [sizesOf, HF.out]
    exact World.ownsRow_made w' #[] 0 hsz (by unfold maxLen; omega) rfl
  | true =>
    have hok := of_tell hf
    obtain ⟨n, rfl⟩ : ∃ n : Nat, h = (n : Int) := ⟨h.toNat, by have := hok.1; omega⟩
    have hn1 : 1 ≤ n := by have := hok.1.1; omega
    have hn7 : n ≤ 7 := by have := hok.1.2; omega
    have hn0 : (0 : Int) ≤ (n : Int) := by omega
    have hy20 : yo.length ≤ 20 := by have := hok.2.2.2.1; have := hok.2.1.2.2.1; omega
    have HF := Lib.hid hf
    have HO := Lib.hid hok
    clear hf hok
    go_enter Try.func40, Try.ntmps40
    go_wp2_with fail
    refine (l04Ok_any w.heap.size (n : Nat) f l ao yo co a z c _ HX.out HR.out HL.out).mono ?_
    generalize w.alloc (.cells #[.int .i64 (n : Nat), .slice ao yo.length co, .int .i64 f, .int .i64 l, .slice a z.length c] 48) = w1 at *
    rintro e w3 ⟨rfl, hq⟩
    rw [HF.out]
    have hbq := quiet_below hq
    have HB3 := Lib.hid (chain HB1.out hbq)
    have HR3 := Lib.hid (HR.out.step hbq)
    have hbx := HX.out.step hbq
    have c0 := hbx.s0
    have c1 := hbx.s1
    have hbl := hbx.lt
    clear hq hbq hbx HX HR HB1
    have hmk := run_make_row' (P := Try.prog) 25 2 (.int .i64 0) 8 Try.underlying25 Try.infoInt64 rfl .i64 .i64 n (by omega) (by omega)
    go_wp2_with fail
    have hr0 := Lib.hid (World.rowIs_made w3 (.int .i64 0) n 2)
    have hB0 := Lib.hid ((Below.refl w3.heap.size w3).alloc (Nat.le_refl _) (.cells (madeCells #[.int .i64 0] n) 2))
    clear hmk
    go_loopw [5] (fun i wr => ∃ k : Nat, k ≤ yo.length ∧ i = .int .i64 k ∧ wr.rowIs w3.heap.size 2 n (fun r => .int .i64 (tally yo k r)) ∧ Below w3.heap.size w3 wr)
      (fun i _ => yo.length - (intOf i).toNat)
    case atStart => exact ⟨0, Nat.zero_le _, rfl, hr0.out.congr (fun i _ => rfl), hB0.out⟩
    case round =>
      obtain ⟨k, hk, rfl, hrow, hbel⟩ := hrel
      clear hr0 hB0
      have HRO := Lib.hid hrow
      have HBE := Lib.hid hbel
      have e1 := (hbel.cell (World.block_lt_of_cell? _ _ c1)).trans c1
      by_cases hlt : k < yo.length
      · rcases HR3.out.o with h | ⟨b, o, rfl, hc⟩
        · rw [h] at hlt; exact absurd hlt (Nat.not_lt_zero _)
        have hown := HO.out.2.2.2.2 k hlt
        obtain ⟨r, hr⟩ : ∃ r : Nat, nth yo k = (r : Int) := ⟨(nth yo k).toNat, by omega⟩
        have hcell : wr.cell? ⟨b, o + k, none⟩ = some (.int .i64 (r : Nat)) := by
          rw [← hr]; exact (hbel.cell (p := ⟨b, o + k, none⟩) (World.block_lt_of_cell? _ _ (hc k hlt))).trans (hc k hlt)
        have hrn : r < n := by omega
        have hrn' : (r : Int) < (n : Int) := by omega
        have hi0 : (k : Int) < (yo.length : Int) := by omega
        have hrc : wr.cell? ⟨w3.heap.size, r, none⟩ = some (.int .i64 (tally yo k r)) := hrow.cell hrn
        have hfr : wr.frozen? ⟨w3.heap.size, r, none⟩ = false := hrow.frozen r
        have ht0 := tally_lo yo r k
        have ht1 := tally_hi yo r k
        have hrow' := (hrow.set r (.int .i64 (tally yo k r + 1))).congr (g := fun q => .int .i64 (tally yo (k + 1) q)) (fun q _ => by
          by_cases e : q = r
          · subst e; simp [tally, hr]
          · have : ¬ (nth yo k = (q : Int)) := by rw [hr]; omega
            simp [tally, e, this])
        have hbel' := hbel.setCell (p := ⟨w3.heap.size, r, none⟩) (Nat.le_refl _) (.int .i64 (tally yo k r + 1))
        generalize tally yo k r = t at hrc ht0 ht1 hrow' hbel'
        have HR' := Lib.hid hrow'
        have HB' := Lib.hid hbel'
        clear hrow hbel hrow' hbel' hc HRO hr hown
        go_wp2_with fail
        go_roundw
        case rel => exact ⟨k + 1, by omega, by go_num, HR'.out, HB'.out⟩
        case measure => simp [intOf]; omega
      · have HE := Lib.hid (show k = yo.length by omega)
        clear hrow hbel
        go_wp2_with fail
        go_ret2
        have e1 : schCode (n : Nat) f l yo z = 0 := by rw [schCode, HF.out]; rfl
        have e2 : sizesOf (n : Nat) f l yo z = sizes n yo := by rw [sizesOf, HF.out]; simp
        rw [e1, e2]
        refine GivesInts.code (w0 := w3) ?_ HB3.out.size (chain HB3.out HBE.out) 0
        have h1 := HRO.out
        rw [HE.out] at h1
        have h2 := own_of_row (zs := sizes n yo) (by rw [sizes_len]; exact h1.congr (fun i hi => by rw [sizes_nth yo hi])) (by rw [sizes_len]; unfold maxLen; omega)
        rw [sizes_len] at h2
        exact h2
end Go.Proofs.Ytcebphepfkpklaa

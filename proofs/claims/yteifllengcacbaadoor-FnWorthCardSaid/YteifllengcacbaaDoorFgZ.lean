/- Fma Dwf Same SameF Drf Drg A2h Fgc in one text. -/
import Derived.Test.YteifllengcacbaaDoorTbl
import Derived.Test.YteifllengcacbaaDoorRen
import Derived.Test.YteifllengcacbaaDoorGrpL
import Derived.Test.YteifllengcacbaaDoorLawA
import Derived.Test.YteifllengcacbaaDoorOpen
import Derived.ChangeAt
import Derived.Test.YteifllengcacbaaDoorOk
import Derived.Test.YteifllengcacbaaDoorWts
import Derived.Deep.RegionLaw
import Derived.Deep.AppendLies
import Derived.Test.YteifllengcacbaaDoorMay
namespace Go.Proofs.YteifllengcacbaaDoor
open Go.RowKit Go.Deep
set_option linter.unusedVariables false

theorem bitsTo_ltB {m : Nat} {l : List Int} (h : ∀ z ∈ l, 0 ≤ z ∧ z < (m : Int)) : ∀ k, k ≤ l.length → bitsTo l k < 2 ^ m
  | 0, _ => by simp [bitsTo, Nat.pow_pos]
  | k + 1, hk => by
    have h1 := bitsTo_ltB h k (by omega)
    obtain ⟨h2, h3⟩ := h (nth l k) (by rw [nth_lt (by omega)]; exact List.getElem_mem _)
    have h4 : (2 : Nat) ^ (nth l k).toNat < 2 ^ m := Nat.pow_lt_pow_right (by omega) (by omega)
    exact Nat.or_lt_two_pow h1 h4
theorem bitsOf_ltB {m : Nat} {l : List Int} (h : ∀ z ∈ l, 0 ≤ z ∧ z < (m : Int)) : bitsOf l < 2 ^ m := bitsTo_ltB h _ (Nat.le_refl _)
theorem grp_lt2 {m : Nat} {l : List Int} (h : IsGrp (m : Int) l) : bitsOf l < 2 ^ m := bitsOf_ltB (grp_mem h)
/-- The bits of any list of numbers that are not negative. -/
theorem bitsTo_bitB {l : List Int} (h : ∀ z ∈ l, 0 ≤ z) (j : Nat) : ∀ k, k ≤ l.length → ((bitsTo l k).testBit j = true ↔ ∃ i, i < k ∧ nth l i = (j : Int))
  | 0, _ => by simp [bitsTo]
  | k + 1, hk => by
    have h0 := h (nth l k) (by rw [nth_lt (by omega)]; exact List.getElem_mem _)
    show (bitsTo l k ||| 2 ^ (nth l k).toNat).testBit j = true ↔ _
    rw [Nat.testBit_or, Bool.or_eq_true, bitsTo_bitB h j k (by omega), Nat.testBit_two_pow, decide_eq_true_eq]
    constructor
    · rintro (⟨i, h1, h2⟩ | h1)
      · exact ⟨i, by omega, h2⟩
      · exact ⟨k, by omega, by omega⟩
    · rintro ⟨i, h1, h2⟩
      by_cases e : i = k
      · subst e; exact .inr (by omega)
      · exact .inl ⟨i, by omega, h2⟩
theorem bits_mem {l : List Int} (h : ∀ z ∈ l, 0 ≤ z) (j : Nat) : (bitsOf l).testBit j = true ↔ (j : Int) ∈ l := by
  unfold bitsOf
  rw [bitsTo_bitB h j _ (Nat.le_refl _)]
  constructor
  · rintro ⟨i, h1, h2⟩
    rw [← h2, nth_lt h1]
    exact List.getElem_mem _
  · intro hm
    obtain ⟨i, h1, h2⟩ := List.mem_iff_getElem.1 hm
    exact ⟨i, h1, by rw [nth_lt h1]; exact h2⟩
theorem listTo_fact : ∀ m : Nat, m < 8 → ∀ x : Nat, x < 128 → x < 2 ^ m → listTo x m = listOf x := by decide +kernel
theorem pow_128 {m : Nat} (h7 : m ≤ 7) : 2 ^ m ≤ 128 := by
  have : (2 : Nat) ^ m ≤ 2 ^ 7 := Nat.pow_le_pow_right (by decide) h7
  omega
/-- Each holder of the one is one of the other. -/
def Inb (x y : Nat) : Prop := ∀ i, x.testBit i = true → y.testBit i = true
theorem Inb.refl (x : Nat) : Inb x x := fun _ h => h
theorem Inb.trans {x y z : Nat} (h : Inb x y) (k : Inb y z) : Inb x z := fun i q => k i (h i q)
/-- More holders never open less. -/
def Mono (m : Nat) (p : Nat → Bool) : Prop := ∀ x y, x < 2 ^ m → y < 2 ^ m → Inb x y → p x = true → p y = true

theorem bits_list : ∀ x : Nat, x < 128 → bitsOf (listOf x) = x := by decide +kernel
theorem grp_fact : ∀ m : Nat, m < 8 → ∀ k : Nat, k < 128 → k < 2 ^ m → ((List.range (listOf k).length).all fun i => decide (0 ≤ nth (listOf k) i) && decide (nth (listOf k) i ≤ (m : Int) - 1) && (i == 0 || decide (nth (listOf k) (i - 1) < nth (listOf k) i))) = true := by decide +kernel
theorem grp_list {m k : Nat} (hm : m ≤ 7) (hk : k < 2 ^ m) : IsGrp (m : Int) (listOf k) := fun i hi => by
  have h := grp_fact m (by omega) k (Nat.lt_of_lt_of_le hk (pow_128 hm)) hk
  have h2 := List.all_eq_true.1 h i (List.mem_range.2 hi)
  simp only [Bool.and_eq_true, Bool.or_eq_true, decide_eq_true_eq, beq_iff_eq] at h2
  exact ⟨h2.1.1, h2.1.2, fun h0 => by rcases h2.2 with q | q; omega; exact q⟩
theorem before_trans {a b c : List Int} (h1 : Before a b) (h2 : Before b c) : Before a c := Classical.byContradiction fun h => lex_neg a c b h (lex_asymm b c h2) h1
theorem fam_lt {h : Int} {zss : List (List Int)} (hf : AllGrp h zss) : ∀ d i, i + d + 1 < zss.length → Before (nthL zss i) (nthL zss (i + d + 1))
  | 0, i, hi => by
    have := (hf (i + 0 + 1) hi).2 (by omega)
    rw [show i + 0 + 1 - 1 = i by omega] at this
    exact this
  | d + 1, i, hi => by
    have h1 := (hf (i + (d + 1) + 1) hi).2 (by omega)
    rw [show i + (d + 1) + 1 - 1 = i + d + 1 by omega] at h1
    exact before_trans (fam_lt hf d i (by omega)) h1
theorem fam_pairwise {h : Int} {zss : List (List Int)} (hf : AllGrp h zss) : zss.Pairwise Before := by
  rw [List.pairwise_iff_getElem]
  intro i j hi hj hij
  have := fam_lt hf (j - i - 1) i (by omega)
  rw [show i + (j - i - 1) + 1 = j by omega, nthL_lt hi, nthL_lt hj] at this
  exact this
theorem fam_bitsB {m : Nat} {zss : List (List Int)} (hf : FamOk (m : Int) zss) : (∀ x ∈ bitsUpTo zss zss.length, x < 2 ^ m) ∧
    (∀ x ∈ bitsUpTo zss zss.length, ∀ y ∈ bitsUpTo zss zss.length, (∀ i, x.testBit i = true → y.testBit i = true) → x = y) ∧ (bitsUpTo zss zss.length).Nodup := by
  have hm : ∀ x, x ∈ bitsUpTo zss zss.length → ∃ i, i < zss.length ∧ bitsOf (nthL zss i) = x := fun x hx => by
    simp only [bitsUpTo, List.mem_map, List.mem_range] at hx
    exact hx
  refine ⟨fun x hx => ?_, fun x hx y hy hs => ?_, ?_⟩
  · obtain ⟨i, h1, rfl⟩ := hm x hx
    exact grp_lt2 (hf.2.1 i h1).1
  · obtain ⟨i, h1, rfl⟩ := hm x hx
    obtain ⟨j, h2, rfl⟩ := hm y hy
    by_cases e : i = j
    · rw [e]
    · exact absurd (sub_iff.2 hs) (hf.2.2 i h1 j h2 e)
  · unfold bitsUpTo
    rw [List.Nodup, List.pairwise_map]
    refine List.Pairwise.imp_of_mem (R := fun a b => a < b) (fun {i j} h1 h2 hlt e => ?_) List.pairwise_lt_range
    exact hf.2.2 i (List.mem_range.1 h1) j (List.mem_range.1 h2) (by omega) (by unfold Part; rw [e, Nat.and_self])
/-- A valid family is the family of what it opens. -/
theorem fam_of_tbl {m : Nat} {zss : List (List Int)} (h7 : m ≤ 7) (hf : FamOk (m : Int) zss) : zss = famOf m (tblAt zss zss.length) := by
  obtain ⟨h1, h2, h3⟩ := fam_bitsB hf
  have ho : Ord (fun i => i) m := ⟨fun i h => h, fun i j _ _ h => h⟩
  have hphi : ∀ x, x < 2 ^ m → phiN (fun i => i) x m = x := fun x hx => eq_of_bits fun i => (phi_bit _ x i m).trans ⟨fun h => h.2, fun h => ⟨bit_lt hx h, h⟩⟩
  have hpsi : ∀ x, x < 2 ^ m → psiN (fun i => i) x m = x := fun x hx => eq_of_bits fun i => (psi_bit _ x i m).trans ⟨fun ⟨j, _, h, e⟩ => e ▸ h, fun h => ⟨i, bit_lt hx h, h, rfl⟩⟩
  have e : ((bitsUpTo zss zss.length).map fun x => listOf (phiN (fun i => i) x m)) = zss := by
    refine List.ext_getElem (by simp [bitsUpTo]) fun i hi hi2 => ?_
    have hg := (hf.2.1 i hi2).1
    simp only [bitsUpTo, List.getElem_map, List.getElem_range]
    rw [hphi _ (grp_lt2 hg), listOf_bitsOf hg (by omega), nthL_lt hi2]
  have hs : Sorts ((bitsUpTo zss zss.length).map fun x => listOf (phiN (fun i => i) x m)) zss := by
    rw [e]
    exact ⟨List.Perm.refl _, (fam_pairwise hf.2.1).imp fun h => lex_asymm _ _ h⟩
  exact (renamed_sorted ho h7 h1 h2 h3 hs).trans (famOf_congr h7 fun y hy => by show anyIn _ (psiN _ y m) = anyIn _ y; rw [hpsi y hy])
/-- Below what opens there is a least group. -/
theorem least_below {m : Nat} {p : Nat → Bool} (h7 : m ≤ 7) (x : Nat) : x < 2 ^ m → p x = true → ∃ y, y < 2 ^ m ∧ leastB m p y = true ∧ Inb y x := by
  induction x using Nat.strongRecOn with
  | ind x ih =>
    intro hx hp
    by_cases hl : leastB m p x = true
    · exact ⟨x, hx, hl, fun i h => h⟩
    · have hx7 : x < 2 ^ 7 := by have := pow_128 h7; omega
      obtain ⟨i, hi, hb, hd⟩ : ∃ i, i < m ∧ x.testBit i = true ∧ p (dropOne x i) = true := by
        refine Classical.byContradiction fun hn => hl (leastB_iff.2 ⟨hp, fun i hi hb => ?_⟩)
        cases hq : p (dropOne x i)
        · rfl
        · exact absurd ⟨i, hi, hb, hq⟩ hn
      have hle := dropOne_le x i
      have hne : dropOne x i ≠ x := fun e => by
        have := (drop_bit (i := i) (j := i) hx7 (by omega)).1 (by rw [e]; exact hb)
        exact this.2 rfl
      obtain ⟨y, h1, h2, h3⟩ := ih (dropOne x i) (by omega) (by omega) hd
      exact ⟨y, h1, h2, fun j hj => ((drop_bit hx7 (by omega)).1 (h3 j hj)).1⟩
theorem mem_fam {m : Nat} (h7 : m ≤ 7) {p : Nat → Bool} {zs : List Int} : zs ∈ famOf m p ↔ ∃ x, x < 2 ^ m ∧ leastB m p x = true ∧ zs = listOf x := by
  unfold famOf pickOf
  rw [List.mem_map]
  constructor
  · rintro ⟨g, hg, rfl⟩
    rw [List.mem_filter] at hg
    exact ⟨g.val, (mem_lex h7 g).1 hg.1, hg.2, rfl⟩
  · rintro ⟨x, hx, hl, rfl⟩
    have h128 := pow_128 h7
    exact ⟨⟨x, by omega⟩, List.mem_filter.2 ⟨(mem_lex h7 _).2 hx, hl⟩, rfl⟩
theorem fam_at {m : Nat} (h7 : m ≤ 7) {p : Nat → Bool} {i : Nat} (hi : i < (famOf m p).length) : ∃ x, x < 2 ^ m ∧ leastB m p x = true ∧ nthL (famOf m p) i = listOf x := (mem_fam h7).1 (by rw [nthL_lt hi]; exact List.getElem_mem _)
theorem fam_up {m : Nat} (h7 : m ≤ 7) {p : Nat → Bool} {i j : Nat} (hi : i < (famOf m p).length) (hj : j < (famOf m p).length) (hij : i < j) : Before (nthL (famOf m p) i) (nthL (famOf m p) j) := by
  have h := List.pairwise_iff_getElem.1 (show (famOf m p).Pairwise Before from pickOf_before h7 (leastB m p)) i j hi hj hij
  rw [nthL_lt hi, nthL_lt hj]
  exact h
/-- The family of a rule is valid. -/
theorem famOk_of {m : Nat} (h1 : 1 ≤ m) (h7 : m ≤ 7) {p : Nat → Bool} (hp : Mono m p) : FamOk (m : Int) (famOf m p) := by
  have h128 := pow_128 h7
  refine ⟨⟨by omega, by omega⟩, fun i hi => ⟨?_, fun h0 => ?_⟩, fun i hi j hj hne hpart => ?_⟩
  · obtain ⟨x, hx, _, e⟩ := fam_at h7 hi
    rw [e]; exact grp_list h7 hx
  · exact fam_up h7 (by omega) hi (by omega)
  · obtain ⟨x, hx, lx, ex⟩ := fam_at h7 hi
    obtain ⟨y, hy, ly, ey⟩ := fam_at h7 hj
    unfold Part at hpart
    rw [ex, ey, bits_list x (by omega), bits_list y (by omega)] at hpart
    have hsub := sub_iff.1 hpart
    have hxy : x ≠ y := fun e => by
      have hb : Before (listOf x) (listOf x) := by
        rcases Nat.lt_or_gt_of_ne hne with h | h
        · have := fam_up h7 hi hj h
          rw [ex, ey, ← e] at this; exact this
        · have := fam_up h7 hj hi h
          rw [ex, ey, ← e] at this; exact this
      exact lex_asymm _ _ hb hb
    obtain ⟨k, hk1, hk2⟩ : ∃ k, y.testBit k = true ∧ ¬ x.testBit k = true := Classical.byContradiction fun hn => hxy (eq_of_bits fun k => ⟨hsub k, fun h => Classical.byContradiction fun hk => hn ⟨k, h, hk⟩⟩)
    have hkm := bit_lt hy hk1
    have hd := (leastB_iff.1 ly).2 k hkm hk1
    have hle := dropOne_le y k
    have : p (dropOne y k) = true := hp x (dropOne y k) hx (by omega) (fun i h => (drop_bit (by omega) (by omega)).2 ⟨hsub i h, fun e => hk2 (e ▸ h)⟩) (leastB_iff.1 lx).1
    rw [this] at hd; cases hd
/-- The family of a rule opens what the rule says. -/
theorem tbl_of {m : Nat} (h7 : m ≤ 7) {p : Nat → Bool} (hp : Mono m p) {x : Nat} (hx : x < 2 ^ m) : tblAt (famOf m p) (famOf m p).length x = p x := by
  have h128 := pow_128 h7
  rw [Bool.eq_iff_iff]
  unfold tblAt
  rw [anyIn_iff]
  constructor
  · rintro ⟨y, hy, hs⟩
    simp only [bitsUpTo, List.mem_map, List.mem_range] at hy
    obtain ⟨i, hi, rfl⟩ := hy
    obtain ⟨z, hz, lz, ez⟩ := fam_at h7 hi
    rw [ez, bits_list z (by omega)] at hs
    exact hp z x hz hx hs (leastB_iff.1 lz).1
  · intro h
    obtain ⟨y, hy, ly, hs⟩ := least_below h7 x hx h
    have hm : listOf y ∈ famOf m p := (mem_fam h7).2 ⟨y, hy, ly, rfl⟩
    obtain ⟨i, hi, e⟩ := List.mem_iff_getElem.1 hm
    refine ⟨y, ?_, hs⟩
    simp only [bitsUpTo, List.mem_map, List.mem_range]
    exact ⟨i, hi, by rw [nthL_lt hi, e, bits_list y (by omega)]⟩
theorem tbl_mono (m : Nat) (zss : List (List Int)) (k : Nat) : Mono m (tblAt zss k) := fun x y _ _ hs h => by
  unfold tblAt at h ⊢
  rw [anyIn_iff] at h ⊢
  obtain ⟨g, hg, hi⟩ := h
  exact ⟨g, hg, fun i h => hs i (hi i h)⟩
/-- Two valid families are one if they open the same groups. -/
theorem fam_ext {m : Nat} {z1 z2 : List (List Int)} (h7 : m ≤ 7) (h1 : FamOk (m : Int) z1) (h2 : FamOk (m : Int) z2) (h : ∀ x, x < 2 ^ m → tblAt z1 z1.length x = tblAt z2 z2.length x) : z1 = z2 :=
  (fam_of_tbl h7 h1).trans ((famOf_congr h7 h).trans (fam_of_tbl h7 h2).symm)
theorem fam_eq {m : Nat} {p : Nat → Bool} {zss : List (List Int)} (h7 : m ≤ 7) (h1 : FamOk (m : Int) zss) (h : ∀ x, x < 2 ^ m → p x = tblAt zss zss.length x) : famOf m p = zss :=
  (famOf_congr h7 h).trans (fam_of_tbl h7 h1).symm
theorem off_bit {m x i : Nat} (hx : x < 2 ^ m) : (2 ^ m - 1 - x).testBit i = true ↔ i < m ∧ ¬ x.testBit i = true := by
  rw [show 2 ^ m - 1 - x = 2 ^ m - (x + 1) by omega, Nat.testBit_two_pow_sub_succ hx]; simp
theorem off_inb {m x y : Nat} (hx : x < 2 ^ m) (hy : y < 2 ^ m) (h : Inb x y) : Inb (2 ^ m - 1 - y) (2 ^ m - 1 - x) := fun i hi => (off_bit hx).2 ⟨((off_bit hy).1 hi).1, fun h' => ((off_bit hy).1 hi).2 (h i h')⟩
def dualBF (m : Nat) (zss : List (List Int)) (x : Nat) : Bool := !tblAt zss zss.length (2 ^ m - 1 - x)
theorem dual_mono (m : Nat) (zss : List (List Int)) : Mono m (dualBF m zss) := fun x y hx hy hs h => by
  unfold dualBF at h ⊢
  cases hq : tblAt zss zss.length (2 ^ m - 1 - y) with
  | false => rfl
  | true =>
    have : tblAt zss zss.length (2 ^ m - 1 - x) = true := tbl_mono m zss _ _ _ (by omega) (by omega) (off_inb hx hy hs) hq
    rw [this] at h; cases h
theorem bits_has {n : Int} {zs : List Int} (hg : IsGrp n zs) (j : Nat) : (bitsOf zs).testBit j = true ↔ (j : Int) ∈ zs := bits_mem (fun z hz => (grp_mem hg z hz).1) j
/-- One group is in another one just if its numbers are. -/
theorem inside_iff {n k : Int} {xs ys : List Int} (hx : IsGrp n xs) (hy : IsGrp k ys) : (∀ z ∈ xs, z ∈ ys) ↔ Inb (bitsOf xs) (bitsOf ys) := by
  constructor
  · exact fun h i hi => (bits_has hy i).2 (h _ ((bits_has hx i).1 hi))
  · intro h z hz
    have h0 := (grp_mem hx z hz).1
    obtain ⟨i, rfl⟩ : ∃ i : Nat, z = i := ⟨z.toNat, by omega⟩
    exact (bits_has hy i).1 (h i ((bits_has hx i).2 hz))
end Go.Proofs.YteifllengcacbaaDoor

namespace Go.Proofs.YteifllengcacbaaDoor
open Go.ChangeShapes Go.WideShapes Go.ChangeAt Go.RowKit Go.Deep Go.Joins
set_option linter.unusedVariables false

/-- A slice of bytes: its cells, up to its length. -/
def Bytes (w : World) (a : Option Addr) (zs : List Int) : Prop :=
  (zs = [] ∨ ∃ b o, a = some ⟨b, o, none⟩ ∧ ∀ i, i < zs.length → w.cell? ⟨b, o + i, none⟩ = some (.int .u8 (nth zs i))) ∧ ∀ i, i < zs.length → 0 ≤ nth zs i ∧ nth zs i ≤ 255
section
variable {H : Type} {enc : TypeId × Value → H} {w : World} {base : Nat} {held : Bool}
set_option maxRecDepth 100000 in
theorem bytes_of_cells {a : Option Addr} {L C : Nat} {Z : List Int} (hL : L ≤ C) (hZ : Z.length = C) (hn : a = none → C = 0) (hc : ∀ a', a = some a' → ∀ c, c < C → w.cell? (a'.add c) = some (.int .u8 (Z.getD c 0))) (hw : ∀ n ∈ Z, (Lit.int .u8 n).wf = true) : Bytes w a (Z.take L) := by
  refine ⟨?_, fun i hi => ?_⟩
  · by_cases h0 : L = 0
    · subst h0; exact .inl (by simp)
    · cases a with
      | none => have := hn rfl; omega
      | some a' =>
        obtain ⟨b, o, sp⟩ := a'
        have hsp : sp = none := by simpa [Addr.add] using World.cell?_spot (hc _ rfl 0 (by omega))
        subst hsp
        refine .inr ⟨b, o, rfl, fun i hi => ?_⟩
        have hi' : i < L := by simpa [hZ, hL] using hi
        rw [nth_take Z hi' (by omega), ← add_plain]
        exact hc _ rfl i (by omega)
  · have hm : nth (Z.take L) i ∈ Z := by
      rw [nth_lt hi]
      exact List.mem_of_mem_take (List.getElem_mem hi)
    have := hw _ hm
    simp [Lit.wf, IntKind.min, IntKind.max, IntKind.signed, IntKind.bits] at this
    omega
set_option maxRecDepth 100000 in
/-- A SLICE OF BYTES, OPENED. -/
theorem open_bytes1 {fuel : Nat} {a0 : Option Addr} {n c : Nat} {x : DataW H × List MemPlace} (h : DataW.trod enc Tryd.prog w base (fun _ => true) held fuel 22 [.slice a0 n c] = some x) :
    ∃ zs, n = zs.length ∧ Bytes w a0 zs ∧ zs.length ≤ 9223372036854775807 := by
  rcases open_ints Tryd.underlying22 Tryd.underlying5 (by kernel_rfl) h with ⟨hcs, _⟩ | ⟨a', len', cap', zs, hcs, _, hl', hm', hz, _, hcell, hwf⟩
  · simp at hcs
    obtain ⟨rfl, rfl, rfl⟩ := hcs
    exact ⟨[], rfl, ⟨.inl rfl, fun i hi => absurd hi (Nat.not_lt_zero _)⟩, by simp⟩
  · simp at hcs
    obtain ⟨rfl, rfl, rfl⟩ := hcs
    simp only [if_true] at hz
    have hm : c ≤ 9223372036854775807 := hm'
    refine ⟨zs.take n, by simp; omega, bytes_of_cells hl' hz (fun e => by cases e) (fun a'' e c hc => by cases e; exact hcell c (by omega)) hwf, by simp; omega⟩
end
/-- What a byte chooses: a number from 0 to n - 1. -/
noncomputable def atOf (zs : List Int) (i : Nat) (n : Int) : Int := if tell (i < zs.length) = true then nth zs i % n else 0
theorem atOf_range (zs : List Int) (i : Nat) {n : Int} (h : 1 ≤ n) : 0 ≤ atOf zs i n ∧ atOf zs i n < n := by
  unfold atOf
  by_cases hi : i < zs.length
  · rw [if_pos (tell_true hi)]; exact ⟨Int.emod_nonneg _ (by omega), Int.emod_lt_of_pos _ (by omega)⟩
  · rw [if_neg (by rw [tell_false hi]; simp)]; omega
set_option maxRecDepth 100000 in
theorem a2At_any (a : Option Addr) (zs : List Int) (c : Nat) (i : Nat) (n : Int) (w : World) (h : Bytes w a zs) (hl : zs.length ≤ 3000) (hi : i ≤ 100000) (hn : 1 ≤ n) (hn1 : n ≤ 100000) :
    Calls Tryd.prog 19 #[.slice a zs.length c, .int .i64 i, .int .i64 n] w fun e w' => e = .returned (.int .i64 (atOf zs i n)) ∧ w = w' := by
  by_cases hlt : i < zs.length
  · have HV := Lib.hid (show atOf zs i n = nth zs i % n by rw [atOf, if_pos (tell_true hlt)])
    obtain ⟨h1, h2⟩ := h
    obtain ⟨b0, b1⟩ := h2 i hlt
    rcases h1 with h | ⟨b, o, rfl, hc⟩
    · rw [h] at hlt; exact absurd hlt (Nat.not_lt_zero _)
    have hcell := hc i hlt
    have hi0 : (i : Int) < (zs.length : Int) := by omega
    have hn0 : n ≠ 0 := by omega
    clear hc h2
    go_enter Tryd.func19, Tryd.ntmps19
    go_wp2
    go_ret
    exact ⟨ret_i64 HV.out.symm, rfl⟩
  · have HV := Lib.hid (show atOf zs i n = 0 by rw [atOf, if_neg (by rw [tell_false hlt]; simp)])
    have hi0 : (zs.length : Int) ≤ (i : Int) := by omega
    go_enter Tryd.func19, Tryd.ntmps19
    go_wp2
    go_ret
    exact ⟨ret_i64 HV.out.symm, rfl⟩
set_option maxRecDepth 100000 in
theorem a2Long_any (a0 a1 : Option Addr) (z0 z1 : List Int) (c0 c1 : Nat) (w : World) : Calls Tryd.prog 11 #[.slice a0 z0.length c0, .slice a1 z1.length c1] w fun e w' => e = .returned (.bool (tell (3000 < z0.length ∨ 3000 < z1.length))) ∧ w = w' := by
  by_cases h0 : (3000 : Int) < (z0.length : Int)
  · have HT := Lib.hid (tell_true (p := 3000 < z0.length ∨ 3000 < z1.length) (.inl (by omega)))
    go_enter Tryd.func11, Tryd.ntmps11
    go_wp2
    go_ret
    exact ⟨ret_bool HT.out.symm, rfl⟩
  · by_cases h1 : (3000 : Int) < (z1.length : Int)
    · have HT := Lib.hid (tell_true (p := 3000 < z0.length ∨ 3000 < z1.length) (.inr (by omega)))
      go_enter Tryd.func11, Tryd.ntmps11
      go_wp2
      go_ret
      exact ⟨ret_bool HT.out.symm, rfl⟩
    · have HT := Lib.hid (tell_false (p := 3000 < z0.length ∨ 3000 < z1.length) (by omega))
      go_enter Tryd.func11, Tryd.ntmps11
      go_wp2
      go_ret
      exact ⟨ret_bool HT.out.symm, rfl⟩
theorem Boxes.m0 {W : World} {B : Nat} {t : TypeId} {v0 v1 v2 : Value} (h : Boxes W B t #[v0, v1, v2]) : W.cell? ⟨B, 0, none⟩ = some v0 := by rw [h.cell]; rfl
theorem Boxes.m1 {W : World} {B : Nat} {t : TypeId} {v0 v1 v2 : Value} (h : Boxes W B t #[v0, v1, v2]) : W.cell? ⟨B, 1, none⟩ = some v1 := by rw [h.cell]; rfl
theorem Boxes.m2 {W : World} {B : Nat} {t : TypeId} {v0 v1 v2 : Value} (h : Boxes W B t #[v0, v1, v2]) : W.cell? ⟨B, 2, none⟩ = some v2 := by rw [h.cell]; rfl
theorem Boxes.frozen {W : World} {B : Nat} {t : TypeId} {vs : Array Value} (h : Boxes W B t vs) (i : Nat) : W.frozen? ⟨B, i, none⟩ = false := by simp [World.frozen?, show W.heap[B]? = _ from h]
theorem row_lt {W : World} {base b e size n : Nat} {u : Value} {xs : List Value} (h : W.ownsRow base e size u n xs) (hb : u.ownBlock = some b) : base ≤ b ∧ b < W.heap.size := World.ownsRow.lt h b hb
theorem Boxes.grown {W W' : World} {B : Nat} {t : TypeId} {vs : Array Value} {row : Option Nat} (h : Boxes W B t vs) (hg : W.grownBy W' row) (hne : row ≠ some B) : Boxes W' B t vs := (hg.block B h.lt (fun e => hne e.symm)).trans h
theorem row_ge {W : World} {base B e size n : Nat} {u : Value} {xs : List Value} (h : W.ownsRow base e size u n xs) (hB : B < base) : u.ownBlock ≠ some B := fun e => by have := row_lt h e; omega
theorem grown_trans {a b c : World} {g : Nat} (h : a.grownBy b (some g)) (k : b.grownBy c (some g)) : a.grownBy c (some g) :=
  ⟨k.os.trans h.os, k.tape.trans h.tape, k.output.trans h.output, Nat.le_trans h.size k.size, fun q hq hne => (k.block q (Nat.lt_of_lt_of_le hq h.size) hne).trans (h.block q hq hne)⟩
theorem grown_below {a b : World} {g : Nat} (h : Below a.heap.size a b) : a.grownBy b (some g) := ⟨h.os, h.tape, h.output, h.size, fun q hq _ => h.block q hq⟩
theorem OwnI.far {W W' : World} {hi g : Nat} {v : Value} {zs : List Int} (h : OwnI W hi v zs) (hg : W.grownBy W' (some g)) (hlt : g < hi) : OwnI W' hi v zs := by
  refine ⟨h.1, ?_⟩
  rcases h.2 with h2 | ⟨g2, cap2, cur, hv, hg2, hh, rr⟩
  · exact .inl h2
  · exact .inr ⟨g2, cap2, cur, hv, hg2, by rw [hg.block g2 (Array.getElem?_eq_some_iff.1 hh).1 (by simp; omega)]; exact hh, rr⟩
theorem below_grown1 {B g : Nat} {w W W' : World} (h : Below B w W) (hg : W.grownBy W' (some g)) (hBW : B ≤ W.heap.size) (hB : B ≤ g) : Below B w W' := h.grown hg hBW (fun q hq => by cases hq; exact hB)
theorem al_b (w : World) (o : Obj) : Below w.heap.size w (w.alloc o) := (Below.refl _ _).alloc (Nat.le_refl _) o
/-- A source that has drawn k times. -/
structure Src (W : World) (q : Nat) (a : Option Addr) (zs : List Int) (c k : Nat) : Prop where
  box : ∃ sd : Int, Boxes W q 87 #[.slice a zs.length c, .int .i64 (k : Int), .int .u64 sd]
  bytes : Bytes W a zs
  len : zs.length ≤ 3000
theorem Bytes.block {W W' : World} {a : Option Addr} {zs : List Int} {q : Nat} (h : Bytes W a zs) (hq : ∀ b o, a = some ⟨b, o, none⟩ → zs ≠ [] → b ≠ q) (hg : W.grownBy W' (some q)) : Bytes W' a zs := by
  refine ⟨?_, h.2⟩
  rcases h.1 with h1 | ⟨b, o, e, hc⟩
  · exact .inl h1
  · by_cases h0 : zs = []
    · exact .inl h0
    · refine .inr ⟨b, o, e, fun i hi => ?_⟩
      have h2 := hc i hi
      have hl := World.block_lt_of_cell? _ _ h2
      have hne := hq b o e h0
      unfold World.cell? at h2 ⊢
      rw [hg.block b hl (by simpa using hne)]
      exact h2
theorem grown_cell (W : World) (g o : Nat) (v : Value) : W.grownBy (W.setCell ⟨g, o, none⟩ v) (some g) := ⟨rfl, rfl, rfl, (KeepsWalks.setCell W _ _).size, fun b _ hq => Below.heap_setCell _ _ _ b (fun e => hq (by rw [e]))⟩
theorem src_ne {W : World} {q b o : Nat} {v0 : Value} {x y z : Int} {t : TypeId} {sp : Option Addr} {n c : Nat} (h : Boxes W q t #[.slice sp n c, .int .i64 x, .int .u64 y]) (hc : W.cell? ⟨b, o, none⟩ = some (.int .u8 z)) : b ≠ q := by
  intro e
  subst e
  rw [h.cell] at hc
  match o, hc with
  | 0, hc => simp at hc
  | 1, hc => simp at hc
  | 2, hc => simp at hc
  | n + 3, hc => simp at hc
theorem Src.ne {W : World} {q : Nat} {a : Option Addr} {zs : List Int} {c k : Nat} (h : Src W q a zs c k) : ∀ b o, a = some ⟨b, o, none⟩ → zs ≠ [] → b ≠ q := fun b o e h0 => by
  obtain ⟨sd, hbx⟩ := h.box
  rcases h.bytes.1 with h1 | ⟨b', o', e', hc⟩
  · exact absurd h1 h0
  · rw [e] at e'
    cases e'
    have hl : 0 < zs.length := by
      cases zs with
      | nil => exact absurd rfl h0
      | cons _ _ => simp
    exact src_ne (v0 := .bool true) hbx (hc 0 hl)
theorem Src.quiet {W W' : World} {q : Nat} {a : Option Addr} {zs : List Int} {c k : Nat} (h : Src W q a zs c k) (hb : Below W.heap.size W W') : Src W' q a zs c k := by
  obtain ⟨sd, hbx⟩ := h.box
  refine ⟨⟨sd, hbx.step hb⟩, ⟨?_, h.bytes.2⟩, h.len⟩
  rcases h.bytes.1 with h1 | ⟨b, o, e, hc⟩
  · exact .inl h1
  · exact .inr ⟨b, o, e, fun i hi => cell_step hb (hc i hi)⟩
theorem Src.drawn {W : World} {q : Nat} {a : Option Addr} {zs : List Int} {c k : Nat} (h : Src W q a zs c k) (y : Int) :
    Src ((W.setCell ⟨q, 1, none⟩ (.int .i64 ((k : Int) + 1))).setCell ⟨q, 2, none⟩ (.int .u64 y)) q a zs c (k + 1) ∧ W.grownBy ((W.setCell ⟨q, 1, none⟩ (.int .i64 ((k : Int) + 1))).setCell ⟨q, 2, none⟩ (.int .u64 y)) (some q) := by
  have hg := grown_trans (grown_cell W q 1 (.int .i64 ((k : Int) + 1))) (grown_cell (W.setCell ⟨q, 1, none⟩ (.int .i64 ((k : Int) + 1))) q 2 (.int .u64 y))
  obtain ⟨sd, hbx⟩ := h.box
  refine ⟨⟨⟨y, ?_⟩, h.bytes.block h.ne hg, h.len⟩, hg⟩
  unfold Boxes at hbx ⊢
  simp [World.setCell, Array.getElem?_modify, hbx]
theorem and_byte (x : Int) : 0 ≤ wrap64 (bits .and .u64 x 255) ∧ wrap64 (bits .and .u64 x 255) ≤ 255 := by
  have h : ∃ n : Nat, n ≤ 255 ∧ bits .and .u64 x 255 = IntKind.u64.wrap (n : Int) := by
    refine ⟨(BitVec.ofInt IntKind.u64.bits x &&& BitVec.ofInt IntKind.u64.bits 255).toNat, ?_, rfl⟩
    rw [BitVec.toNat_and]
    exact Nat.le_trans Nat.and_le_right (by decide)
  obtain ⟨n, h1, h2⟩ := h
  rw [h2, IntKind.wrap_u64, Int.emod_eq_of_lt (by omega) (by omega)]
  have e : wrap64 (n : Int) = n := by unfold wrap64; omega
  rw [e]
  omega
set_option maxRecDepth 100000 in
set_option maxHeartbeats 1000000 in
theorem next_any (q : Nat) (a : Option Addr) (zs : List Int) (c k : Nat) (w : World) (h : Src w q a zs c k) (hk : k ≤ 100000) :
    Calls Tryd.prog 84 #[.pointer (some ⟨q, 0, none⟩)] w fun e w' => (∃ v : Int, e = .returned (.int .i64 v) ∧ 0 ≤ v ∧ v ≤ 255) ∧ Src w' q a zs c (k + 1) ∧ w.grownBy w' (some q) := by
  obtain ⟨sd, hbx⟩ := h.box
  have HS := Lib.hid h
  have x0 := hbx.m0
  have x1 := hbx.m1
  have x2 := hbx.m2
  have f0 := hbx.frozen 0
  have f1 := hbx.frozen 1
  have f2 := hbx.frozen 2
  have xl := hbx.lt
  have hl3 := h.len
  clear hbx
  by_cases hlt : k < zs.length
  · have hk0 : (k : Int) < (zs.length : Int) := by omega
    have hk1 : (k : Int) + 1 ≤ (zs.length : Int) := by omega
    obtain ⟨h1, h2⟩ := h.bytes
    rcases h1 with h9 | ⟨b, o, rfl, hc⟩
    · rw [h9] at hlt; exact absurd hlt (Nat.not_lt_zero _)
    have hcell := hc k hlt
    have hcl := World.block_lt_of_cell? _ _ hcell
    obtain ⟨b0, b1⟩ := h2 k hlt
    generalize nth zs k = x at hcell b0 b1
    clear hc h2 h
    go_enter Tryd.func84, Tryd.ntmps84
    go_wp2_with fail
    go_region
    go_wp2_with fail
    go_region
    go_wp2_with fail
    go_region
    go_wp2_with fail
    go_ret
    exact ⟨⟨x, rfl, b0, b1⟩, ((((HS.out.drawn _).1.quiet (drew_step _)).quiet (drew_step _)).quiet (drew_step _)), grown_trans (grown_trans (grown_trans (HS.out.drawn _).2 (grown_below (drew_step _))) (grown_below (drew_step _))) (grown_below (drew_step _))⟩
  · have hk0 : ¬ (k : Int) < (zs.length : Int) := by omega
    have hk1 : ¬ (k : Int) + 1 ≤ (zs.length : Int) := by omega
    have hk2 : (zs.length : Int) < (k : Int) + 1 := by omega
    clear h
    go_enter Tryd.func84, Tryd.ntmps84
    go_wp2_with fail
    go_region
    go_wp2_with fail
    go_region
    go_wp2_with fail
    go_ret
    exact ⟨⟨_, rfl, (and_byte _).1, (and_byte _).2⟩, ((HS.out.drawn _).1.quiet (drew_step _)).quiet (drew_step _), grown_trans (grown_trans (HS.out.drawn _).2 (grown_below (drew_step _))) (grown_below (drew_step _))⟩
set_option maxRecDepth 100000 in
set_option maxHeartbeats 1000000 in
/-- A number below n is drawn; at most two bytes are read. -/
theorem pick_any (q : Nat) (a : Option Addr) (zs : List Int) (c k : Nat) (n : Int) (w : World) (h : Src w q a zs c k) (hk : k ≤ 10000) (hn : 1 ≤ n) (hn1 : n ≤ 200) :
    Calls Tryd.prog 62 #[.pointer (some ⟨q, 0, none⟩), .int .i64 n] w fun e w' => (∃ v : Int, e = .returned (.int .i64 v) ∧ 0 ≤ v ∧ v < n) ∧ (∃ k', k' ≤ k + 1 ∧ Src w' q a zs c k') ∧ w.grownBy w' (some q) := by
  by_cases h1 : n ≤ 1
  · go_enter Tryd.func62, Tryd.ntmps62
    go_wp2_with fail
    go_ret
    exact ⟨⟨0, rfl, by omega, by omega⟩, ⟨k, by omega, h⟩, grown_below (Below.refl _ _)⟩
  · have h2 : ¬ 200 < n := by omega
    have HS := Lib.hid h
    clear h
    go_enter Tryd.func62, Tryd.ntmps62
    go_wp2_with fail
    refine (next_any q a zs c k w HS.out (by omega)).mono ?_
    rintro e w' ⟨⟨v, rfl, v0, v1⟩, hs, hg⟩
    have H1 := Lib.hid hs
    have H2 := Lib.hid hg
    clear hs hg
    go_wp2_with fail
    go_ret
    exact ⟨⟨_, rfl, Int.emod_nonneg _ (by omega), Int.emod_lt_of_pos _ (by omega)⟩, ⟨k + 1, by omega, H1.out⟩, H2.out⟩
set_option maxRecDepth 100000 in
set_option maxHeartbeats 1000000 in
theorem one_any (q : Nat) (a : Option Addr) (zs : List Int) (c k : Nat) (n : Int) (w : World) (h : Src w q a zs c k) (hk : k ≤ 10000) (hn : 1 ≤ n) (hn1 : n ≤ 200) :
    Calls Tryd.prog 44 #[.pointer (some ⟨q, 0, none⟩), .int .i64 n] w fun e w' => (∃ b : Bool, e = .returned (.bool b)) ∧ (∃ k', k' ≤ k + 1 ∧ Src w' q a zs c k') ∧ w.grownBy w' (some q) := by
  have HS := Lib.hid h
  clear h
  go_enter Tryd.func44, Tryd.ntmps44
  go_wp2_with fail
  refine (pick_any q a zs c k n w HS.out (by omega) (by omega) (by omega)).mono ?_
  rintro e w' ⟨⟨v, rfl, v0, v1⟩, hs, hg⟩
  have H1 := Lib.hid hs
  have H2 := Lib.hid hg
  clear hs hg
  go_wp2_with fail
  go_ret
  exact ⟨⟨_, rfl⟩, H1.out, H2.out⟩
theorem grown_mixd {a b c : World} {q : Nat} {row : Option Nat} (h : a.grownBy b (some q)) (k : b.grownBy c row) (hr : ∀ r, row = some r → a.heap.size ≤ r) : a.grownBy c (some q) :=
  ⟨k.os.trans h.os, k.tape.trans h.tape, k.output.trans h.output, Nat.le_trans h.size k.size, fun x hx hne => (k.block x (Nat.lt_of_lt_of_le hx h.size) (fun e => by have := hr x e.symm; omega)).trans (h.block x hx hne)⟩
/-- What a source reads lies below a mark. -/
def Low (B q : Nat) (a : Option Addr) (zs : List Int) : Prop := q < B ∧ ∀ b o, a = some ⟨b, o, none⟩ → zs ≠ [] → b < B
theorem Low.le {B B' q : Nat} {a : Option Addr} {zs : List Int} (h : Low B q a zs) (hb : B ≤ B') : Low B' q a zs := ⟨by have := h.1; omega, fun b o e h0 => by have := h.2 b o e h0; omega⟩
theorem Src.low {W : World} {q : Nat} {a : Option Addr} {zs : List Int} {c k : Nat} (h : Src W q a zs c k) : Low W.heap.size q a zs := ⟨by obtain ⟨sd, hb⟩ := h.box; exact hb.lt, fun b o e h0 => by
  rcases h.bytes.1 with h1 | ⟨b', o', e', hc⟩
  · exact absurd h1 h0
  · rw [e] at e'
    cases e'
    have hl : 0 < zs.length := by
      cases zs with
      | nil => exact absurd rfl h0
      | cons _ _ => simp
    exact World.block_lt_of_cell? _ _ (hc 0 hl)⟩
/-- The source stays where what changes lies at or above the mark. -/
theorem Src.kept {W W' : World} {B q : Nat} {a : Option Addr} {zs : List Int} {c k : Nat} {row : Option Nat} (h : Src W q a zs c k) (hl : Low B q a zs) (hg : W.grownBy W' row) (hr : ∀ r, row = some r → B ≤ r) : Src W' q a zs c k := by
  obtain ⟨sd, hbx⟩ := h.box
  have h1 := hl.1
  refine ⟨⟨sd, hbx.grown hg (fun e => by have := hr q e; omega)⟩, ⟨?_, h.bytes.2⟩, h.len⟩
  by_cases h0 : zs = []
  · exact .inl h0
  rcases h.bytes.1 with h2 | ⟨b, o, e, hc⟩
  · exact absurd h2 h0
  · refine .inr ⟨b, o, e, fun i hi => ?_⟩
    have h3 := hc i hi
    have h4 := World.block_lt_of_cell? _ _ h3
    have h5 := hl.2 b o e h0
    unfold World.cell? at h3 ⊢
    rw [hg.block b h4 (fun e => by have := hr b e.symm; omega)]
    exact h3
theorem grown_put (W : World) (g o : Nat) (v : Value) : W.grownBy (W.setCell ⟨g, o, none⟩ v) (some g) := grown_cell W g o v
theorem grown_pre {a b c : World} {row : Option Nat} (h : Below a.heap.size a b) (k : b.grownBy c row) : a.grownBy c row :=
  ⟨k.os.trans h.os, k.tape.trans h.tape, k.output.trans h.output, Nat.le_trans h.size k.size, fun x hx hne => (k.block x (Nat.lt_of_lt_of_le hx h.size) hne).trans (h.block x hx)⟩
set_option maxRecDepth 100000 in
set_option maxHeartbeats 1000000 in
theorem l00From_any (a : Option Addr) (zs : List Int) (c : Nat) (w : World) (h : Bytes w a zs) (hl : zs.length ≤ 3000) :
    Calls Tryd.prog 43 #[.slice a zs.length c] w fun e w' => e = .returned (.pointer (some ⟨w.heap.size, 0, none⟩)) ∧ Src w' w.heap.size a zs c 0 ∧ Below w.heap.size w w' := by
  have HB := Lib.hid h
  clear h
  go_enter Tryd.func43, Tryd.ntmps43
  go_wp2_with fail
  go_ret
  have hb := (Below.refl w.heap.size w).alloc (Nat.le_refl _) (.cells #[.slice a zs.length c, .int .i64 0, .int .u64 0] 87)
  refine ⟨rfl, ⟨⟨0, World.alloc_heap_new _ _⟩, ⟨?_, HB.out.2⟩, hl⟩, hb⟩
  rcases HB.out.1 with h1 | ⟨b, o, e, hc⟩
  · exact .inl h1
  · exact .inr ⟨b, o, e, fun i hi => cell_step hb (hc i hi)⟩
end Go.Proofs.YteifllengcacbaaDoor

namespace Go.Proofs.YteifllengcacbaaDoor
open Go.RowKit Go.Deep
set_option linter.unusedVariables false

theorem eq_iff_nth {xs ys : List Int} : xs = ys ↔ xs.length = ys.length ∧ ∀ i, i < xs.length → nth xs i = nth ys i :=
  ⟨fun h => by subst h; exact ⟨rfl, fun _ _ => rfl⟩, fun ⟨h1, h2⟩ => ext_nth h1 h2⟩
theorem eq_iff_nthL {xs ys : List (List Int)} : xs = ys ↔ xs.length = ys.length ∧ ∀ i, i < xs.length → nthL xs i = nthL ys i :=
  ⟨fun h => by subst h; exact ⟨rfl, fun _ _ => rfl⟩, fun ⟨h1, h2⟩ => ext_nthL h1 h2⟩

set_option maxRecDepth 100000 in
set_option maxHeartbeats 400000 in
theorem l00Same_any (a b : Option Addr) (xs ys : List Int) (ca cb : Nat) (w : World) (ha : Ints w a xs) (hb : Ints w b ys) (hlx : xs.length ≤ 9223372036854775807) (hly : ys.length ≤ 9223372036854775807) :
    Calls Tryd.prog 53 #[.slice a xs.length ca, .slice b ys.length cb] w fun e w' => e = .returned (.bool (tell (xs = ys))) ∧ Quiet w w' := by
  by_cases hlen : xs.length = ys.length
  · have t0 : ((xs.length : Int) != (ys.length : Int)) = false := by simp [hlen]
    have t00 : (xs.length != ys.length) = false := by simp [hlen]
    have HLN := Lib.hid hlen
    clear hlen
    go_enter Tryd.func53, Tryd.ntmps53
    go_wp2
    go_loopw [5] (fun i wr => ∃ k : Nat, k ≤ xs.length ∧ i = .int .i64 k ∧ Quiet w wr ∧ ∀ j, j < k → nth xs j = nth ys j)
      (fun i _ => xs.length - (intOf i).toNat)
    case atStart => exact ⟨0, Nat.zero_le _, rfl, Quiet.refl _, fun j hj => absurd hj (Nat.not_lt_zero _)⟩
    case round =>
      obtain ⟨k, hk, rfl, hq, hall⟩ := hrel
      have HQ := Lib.hid hq
      have HA := Lib.hid hall
      have hax := ha.quiet hq
      have hbx := hb.quiet hq
      clear hall hq
      by_cases hlt : k < xs.length
      · have hlty : k < ys.length := by have := HLN.out; omega
        rcases hax with h | ⟨b1, o1, rfl, hc1⟩
        · rw [h] at hlt; exact absurd hlt (Nat.not_lt_zero _)
        rcases hbx with h | ⟨b2, o2, rfl, hc2⟩
        · rw [h] at hlty; exact absurd hlty (Nat.not_lt_zero _)
        have g1 := hc1 k hlt
        have g2 := hc2 k hlty
        have hix : (k : Int) < (xs.length : Int) := by omega
        have hiy : (k : Int) < (ys.length : Int) := by omega
        clear hc1 hc2
        by_cases hne : nth xs k = nth ys k
        · have t1 : (nth xs k != nth ys k) = false := by simp [hne]
          have HN := Lib.hid hne
          clear hne
          go_wp2
          go_quiet (fail)
          go_wp2
          go_roundw
          case rel =>
            refine ⟨k + 1, by omega, by go_num, HQ.out.trans ⟨_, rfl⟩, fun j hj => ?_⟩
            by_cases e : j = k
            · subst e; exact HN.out
            · exact HA.out j (by omega)
          case measure => simp [intOf]; omega
        · have t1 : (nth xs k != nth ys k) = true := by simp [hne]
          have HN := Lib.hid (show ¬ xs = ys from fun e => hne (by rw [e]))
          clear hne
          go_wp2
          go_quiet (fail)
          go_wp2
          go_ret
          exact ⟨ret_bool (tell_false HN.out).symm, HQ.out.trans ⟨_, rfl⟩⟩
      · have HY := Lib.hid (show xs = ys from ext_nth HLN.out (fun i hi => HA.out i (by omega)))
        go_wp2
        go_ret
        exact ⟨ret_bool (tell_true HY.out).symm, HQ.out⟩
  · have t0 : ((xs.length : Int) != (ys.length : Int)) = true := by simp; omega
    have t00 : (xs.length != ys.length) = true := by simp [hlen]
    have HN := Lib.hid (show ¬ xs = ys from fun e => hlen (by rw [e]))
    clear hlen
    go_enter Tryd.func53, Tryd.ntmps53
    go_wp2
    go_ret
    exact ⟨ret_bool (tell_false HN.out).symm, Quiet.refl _⟩

end Go.Proofs.YteifllengcacbaaDoor

namespace Go.Proofs.YteifllengcacbaaDoor
open Go.RowKit Go.Deep
set_option linter.unusedVariables false

set_option maxRecDepth 100000 in
set_option maxHeartbeats 800000 in
theorem specSame_any (hf hg : Int) (a b : Option Addr) (xs ys : List (List Int)) (ca cb : Nat) (w : World) (ha : Rows2 w a xs) (hb : Rows2 w b ys) (hlx : Lens xs) (hly : Lens ys) :
    Calls Tryd.prog 24 #[.agg #[.int .i64 hf, .slice a xs.length ca], .agg #[.int .i64 hg, .slice b ys.length cb]] w fun e w' => e = .returned (.bool (tell (hf = hg ∧ xs = ys))) ∧ Below w.heap.size w w' := by
  have hl1 : xs.length ≤ 9223372036854775807 := hlx.1
  have HLX := Lib.hid hlx
  have HLY := Lib.hid hly
  have hb1 := ((Below.refl w.heap.size w).alloc (Nat.le_refl _) (.cells #[.int .i64 hf, .slice a xs.length ca] 26)).alloc (by simp) (.cells #[.int .i64 hg, .slice b ys.length cb] 26)
  have HB1 := Lib.hid hb1
  have HA := Lib.hid (ha.below hb1 (Nat.le_refl _))
  have HB := Lib.hid (hb.below hb1 (Nat.le_refl _))
  clear hlx hly hb1 ha hb
  by_cases hh : hf = hg
  · have s0 : (hf != hg) = false := by simp [hh]
    have HH := Lib.hid hh
    clear hh
    by_cases hlen : xs.length = ys.length
    · have t0 : ((xs.length : Int) != (ys.length : Int)) = false := by simp [hlen]
      have t00 : (xs.length != ys.length) = false := by simp [hlen]
      have HLN := Lib.hid hlen
      clear hlen
      go_enter Tryd.func24, Tryd.ntmps24
      go_wp2_with fail
      obtain ⟨W0, hW0⟩ : ∃ W0, (w.alloc (.cells #[.int .i64 hf, .slice a xs.length ca] 26)).alloc (.cells #[.int .i64 hg, .slice b ys.length cb] 26) = W0 := ⟨_, rfl⟩
      have c0 : W0.cell? ⟨w.heap.size, 1, none⟩ = some (.slice a xs.length ca) := by rw [← hW0]; simp
      have c1 : W0.cell? ⟨w.heap.size + 1, 1, none⟩ = some (.slice b ys.length cb) := by rw [← hW0]; simp
      rw [hW0] at HA HB HB1
      simp only [hW0]
      clear hW0
      go_loopw [5] (fun i wr => ∃ k : Nat, k ≤ xs.length ∧ i = .int .i64 k ∧ Quiet W0 wr ∧ ∀ j, j < k → nthL xs j = nthL ys j)
        (fun i _ => xs.length - (intOf i).toNat)
      case atStart => exact ⟨0, Nat.zero_le _, rfl, Quiet.refl _, fun j hj => absurd hj (Nat.not_lt_zero _)⟩
      case round =>
        obtain ⟨k, hk, rfl, hq, hall⟩ := hrel
        have HQ := Lib.hid hq
        have HAL := Lib.hid hall
        have d0 := (hq.cell _).trans c0
        have d1 := (hq.cell _).trans c1
        have HBQ := Lib.hid (HB1.out.trans ((quiet_below hq).mono (by have := HB1.out.size; omega)))
        by_cases hlt : k < xs.length
        · have hlty : k < ys.length := by have := HLN.out; omega
          rcases HA.out.quiet hq with h | ⟨b1, o1, rfl, hc1⟩
          · rw [h] at hlt; exact absurd hlt (Nat.not_lt_zero _)
          rcases HB.out.quiet hq with h | ⟨b2, o2, rfl, hc2⟩
          · rw [h] at hlty; exact absurd hlty (Nat.not_lt_zero _)
          obtain ⟨ai, ci, g1, i1⟩ := hc1 k hlt
          obtain ⟨aj, cj, g2, i2⟩ := hc2 k hlty
          have hix : (k : Int) < (xs.length : Int) := by omega
          have hiy : (k : Int) < (ys.length : Int) := by omega
          have I1 := Lib.hid i1
          have I2 := Lib.hid i2
          clear hc1 hc2 hall hq c0 c1 i1 i2
          by_cases hne : nthL xs k = nthL ys k
          · have HT := Lib.hid (tell_true hne)
            have HN := Lib.hid hne
            clear hne
            go_wp2
            go_quiet ((go_at_call 53; refine Calls.quiet_of (v := .bool true) ?_; rw [← HT.out]; exact l00Same_any _ _ (nthL xs k) (nthL ys k) _ _ _ (I1.out.quiet ⟨_, rfl⟩) (I2.out.quiet ⟨_, rfl⟩) (HLX.out.2 k hlt) (HLY.out.2 k hlty)))
            go_wp2
            go_roundw
            case rel =>
              refine ⟨k + 1, by omega, by go_num, HQ.out.trans ⟨_, rfl⟩, fun j hj => ?_⟩
              by_cases e : j = k
              · subst e; exact HN.out
              · exact HAL.out j (by omega)
            case measure => simp [intOf]; omega
          · have HT := Lib.hid (tell_false hne)
            have HN := Lib.hid (show ¬ (hf = hg ∧ xs = ys) from fun e => hne (by rw [e.2]))
            clear hne
            go_wp2
            go_quiet ((go_at_call 53; refine Calls.quiet_of (v := .bool false) ?_; rw [← HT.out]; exact l00Same_any _ _ (nthL xs k) (nthL ys k) _ _ _ (I1.out.quiet ⟨_, rfl⟩) (I2.out.quiet ⟨_, rfl⟩) (HLX.out.2 k hlt) (HLY.out.2 k hlty)))
            go_wp2
            go_ret
            exact ⟨ret_bool (tell_false HN.out).symm, below_drewN HBQ.out _⟩
        · have HY := Lib.hid (show hf = hg ∧ xs = ys from ⟨HH.out, ext_nthL HLN.out (fun i hi => hall i (by omega))⟩)
          clear hall hq c0 c1
          go_wp2
          go_ret
          exact ⟨ret_bool (tell_true HY.out).symm, HBQ.out⟩
    · have t0 : ((xs.length : Int) != (ys.length : Int)) = true := by simp; omega
      have t00 : (xs.length != ys.length) = true := by simp [hlen]
      have HN := Lib.hid (show ¬ (hf = hg ∧ xs = ys) from fun e => hlen (by rw [e.2]))
      clear hlen
      go_enter Tryd.func24, Tryd.ntmps24
      go_wp2_with fail
      go_ret
      exact ⟨ret_bool (tell_false HN.out).symm, HB1.out⟩
  · have s0 : (hf != hg) = true := by simp [hh]
    have HN := Lib.hid (show ¬ (hf = hg ∧ xs = ys) from fun e => hh e.1)
    clear hh
    go_enter Tryd.func24, Tryd.ntmps24
    go_wp2_with fail
    go_ret
    exact ⟨ret_bool (tell_false HN.out).symm, HB1.out⟩

end Go.Proofs.YteifllengcacbaaDoor

namespace Go.Proofs.YteifllengcacbaaDoor
open Go.RowKit Go.Deep Go.Joins
set_option linter.unusedVariables false

theorem rows_snocOff {W W' : World} {base q : Nat} {us : List Value} {zss : List (List Int)} {u : Value} {zs : List Int} (h : RowsOwn W base us zss) (hg : W.grownBy W' (some q)) (hq : q < base) (hu : OwnI W' W.heap.size u zs) (hB : base ≤ W.heap.size) :
    RowsOwn W' base (us ++ [u]) (zss ++ [zs]) := by
  refine ⟨by simp [h.len], fun i u1 zs1 h1 h2 => ?_, ?_⟩
  · by_cases hi : i < us.length
    · rw [List.getElem?_append_left hi] at h1
      rw [List.getElem?_append_left (by rw [← h.len]; exact hi)] at h2
      exact World.ownsRow.kept (h.own i u1 zs1 h1 h2) hg (.inr (row_ge (h.own i u1 zs1 h1 h2) hq))
    · rw [List.getElem?_append_right (by omega)] at h1
      rw [List.getElem?_append_right (by rw [← h.len]; omega), ← h.len] at h2
      have h0 : i - us.length = 0 := by
        have := (List.getElem?_eq_some_iff.1 h1).1
        simp at this; omega
      rw [h0] at h1 h2
      simp at h1 h2
      subst h1; subst h2
      exact hu.mono hB
  · refine List.pairwise_append.2 ⟨h.sep, by simp, fun u1 hu1 u2 hu2 b b' e1 e2 => ?_⟩
    simp at hu2; subst hu2
    obtain ⟨i, hi, rfl⟩ := List.mem_iff_getElem.1 hu1
    have h3 := (h.own i us[i] (zss[i]'(by rw [← h.len]; exact hi)) (by simp [hi]) (by simp)).lt e1
    have h4 := hu.lt e2
    omega
theorem Bytes.step {W W' : World} {a : Option Addr} {zs : List Int} (h : Bytes W a zs) (hb : Below W.heap.size W W') : Bytes W' a zs :=
  ⟨by
    rcases h.1 with h1 | ⟨b, o, e, hc⟩
    · exact .inl h1
    · exact .inr ⟨b, o, e, fun i hi => cell_step hb (hc i hi)⟩, h.2⟩
/-- The last element of a row that has grown. -/
theorem own_last {W : World} {base j : Nat} {v : Value} {zs : List Int} {x : Int} (h : OwnI W base v (zs ++ [x])) (hl : zs.length = j) : ∃ b o cap, v = .slice (some ⟨b, o, none⟩) (j + 1) cap ∧ W.cell? ⟨b, o + j, none⟩ = some (.int .i64 x) ∧ b < W.heap.size := by
  obtain ⟨a, c, rfl⟩ := rowForm h
  have hi := Ints_of_own h
  subst hl
  rcases hi with hi | ⟨b, o, rfl, hc⟩
  · simp at hi
  · refine ⟨b, o, c, by simp, ?_, ?_⟩
    · have := hc zs.length (by simp)
      rw [this]
      unfold nth; simp
    · exact World.block_lt_of_cell? _ _ (hc 0 (by simp))
theorem Own.off {W W' : World} {base q : Nat} {v : Value} {us : List Value} {zss : List (List Int)} (h : Own W base v us zss) (hg : W.grownBy W' (some q)) (hq : q < base) : Own W' base v us zss :=
  ⟨h.row.kept hg (.inr (row_ge h.row hq)), h.rows.map fun u zs ho => World.ownsRow.kept ho hg (.inr (row_ge ho hq))⟩
theorem heavy_mono {zs : List Int} (hz : ∀ i, i < zs.length → 0 ≤ nth zs i) (k : Int) (m : Nat) : Mono m (heavy zs k) := fun x y _ _ hs h => by
  unfold heavy at h ⊢
  have hle : ∀ j, j ≤ zs.length → wsum zs x j ≤ wsum zs y j := by
    intro j
    induction j with
    | zero => intro _; simp [wsum]
    | succ j ih =>
      intro hj
      have h0 := hz j (by omega)
      have h1 := ih (by omega)
      cases hx : x.testBit j with
      | true => rw [wsum_hit hx, wsum_hit (hs j hx)]; omega
      | false =>
        rw [wsum_miss hx]
        cases hy : y.testBit j with
        | true => rw [wsum_hit hy]; omega
        | false => rw [wsum_miss hy]; exact h1
  have := hle zs.length (Nat.le_refl _)
  simp only [decide_eq_true_eq] at h ⊢
  omega
/-- What gives a valid family of m holders. -/
structure GivesOk (W : World) (m : Nat) (e : Ending) (w' : World) : Prop where
  val : ∃ a z c, e = .returned (.agg #[.int .i64 (m : Nat), .slice a z.length c]) ∧ FamOk (m : Int) z ∧ RowsF w' W.heap.size a z

set_option maxRecDepth 100000 in
set_option maxHeartbeats 4000000 in
theorem l01Drawn_any (q : Nat) (a : Option Addr) (zs : List Int) (c k0 m : Nat) (w : World) (h : Src w q a zs c k0) (hk0 : k0 ≤ 1000) (m1 : 1 ≤ m) (m7 : m ≤ 7) :
    Calls Tryd.prog 50 #[.pointer (some ⟨q, 0, none⟩), .int .i64 (m : Nat)] w fun e w' => GivesOk w m e w' ∧ (∃ k', k' ≤ k0 + 40 ∧ Src w' q a zs c k') ∧ w.grownBy w' (some q) := by
  obtain ⟨i0, hi, hz0, hz1, hz2⟩ := info_parts Tryd.infoInt64
  obtain ⟨i1, ji, jz0, jz1, jz2⟩ := info_parts Tryd.infoInt64S
  have HLO := Lib.hid h.low
  have hq := h.low.1
  have hb0 := al_b w (.cells #[.int .i64 0, .slice none 0 0] 26)
  have hbo : Boxes1 (w.alloc (.cells #[.int .i64 0, .slice none 0 0] 26)) w.heap.size := World.alloc_heap_new _ _
  have HS0 := Lib.hid (h.quiet hb0)
  have HG0 := Lib.hid (grown_below (g := q) hb0)
  clear h hb0
  go_enter Tryd.func50, Tryd.ntmps50
  go_wp2_with fail
  generalize w.alloc (.cells #[.int .i64 0, .slice none 0 0] 26) = w1 at *
  have HO := Lib.hid hbo
  have hsz1 : w.heap.size < w1.heap.size := hbo.lt
  clear hbo
  refine (one_any q a zs c k0 4 w1 HS0.out (by omega) (by omega) (by omega)).mono ?_
  rintro e w2 ⟨⟨bb, rfl⟩, ⟨k2, hk2, hs2⟩, hg2⟩
  have HS2 := Lib.hid hs2
  have HG2 := Lib.hid (grown_trans HG0.out hg2)
  have HO2 := Lib.hid (show Boxes1 w2 w.heap.size from (hg2.block w.heap.size hsz1 (by simp; omega)).trans HO.out)
  have hsz2 : w.heap.size < w2.heap.size := HO2.out.lt
  clear hs2 hg2 HO HS0 HG0
  cases bb with
  | true =>
    go_wp2_with fail
    have hba := al_b w2 (.cells #[] 2)
    have hown0 : OwnI (w2.alloc (.cells #[] 2)) w2.heap.size (.slice (some ⟨w2.heap.size, 0, none⟩) 0 0) ([] : List Int) := by
      exact World.ownsRow_made w2 (base := w2.heap.size) (e := 2) (size := 1) #[] 0 (Nat.le_refl _) (by unfold maxLen; omega) rfl
    have HOW := Lib.hid hown0
    have HS3 := Lib.hid (HS2.out.quiet hba)
    have HG3 := Lib.hid (grown_trans HG2.out (grown_below (g := q) hba))
    have HO3 := Lib.hid (HO2.out.step hba)
    have hs24 : w2.heap.size < (w2.alloc (.cells #[] 2)).heap.size := by simp
    clear hown0 hba
    generalize w2.alloc (.cells #[] 2) = w4 at *
    generalize (Value.slice (some ⟨w2.heap.size, 0, none⟩) 0 0) = v0 at *
    go_loopw [5, 6, 7] (fun v s i wi => ∃ (j : Nat) (r : List Int) (kk : Nat) (S : Int), j ≤ m ∧ i = .int .i64 j ∧ s = .int .i64 S ∧ 0 ≤ S ∧ S ≤ 5 * j ∧ r.length = j ∧ (∀ x ∈ r, 0 ≤ x ∧ x < 5) ∧ OwnI wi w2.heap.size v r ∧ w.grownBy wi (some q) ∧ Src wi q a zs c kk ∧ kk ≤ k2 + j ∧ Boxes1 wi w.heap.size ∧ w2.heap.size < wi.heap.size)
      (fun _ _ i _ => m - (intOf i).toNat)
    case atStart => exact ⟨0, [], k2, 0, Nat.zero_le _, rfl, rfl, by omega, by omega, rfl, by simp, HOW.out, HG3.out, HS3.out, by omega, HO3.out, hs24⟩
    case round =>
      obtain ⟨j, r, kk, S, hj, rfl, rfl, hS0, hS1, hrl, hre, ho, hgi, hsi, hkk, hbx, hw2r⟩ := hrel
      have HRL := Lib.hid hrl
      have HRE := Lib.hid hre
      have HOI := Lib.hid ho
      have HGI := Lib.hid hgi
      have HSI := Lib.hid hsi
      have HBX := Lib.hid hbx
      have hszr : w.heap.size < wr.heap.size := hbx.lt
      clear hrl hre ho hgi hsi hbx HOW HG3 HS3 HO3
      by_cases hltj : j < m
      · have hj0 : (j : Int) < (m : Int) := by omega
        go_wp2_with fail
        refine (pick_any q a zs c kk 5 wr HSI.out (by omega) (by omega) (by omega)).mono ?_
        rintro e w5 ⟨⟨v, rfl, vv0, vv1⟩, ⟨k5, hk5, hs5⟩, hg5⟩
        have HOI5 := Lib.hid (HOI.out.far hg5 (show q < w2.heap.size by omega))
        have HS5 := Lib.hid hs5
        have HG5 := Lib.hid (grown_trans HGI.out hg5)
        have HB5 := Lib.hid (show Boxes1 w5 w.heap.size from (hg5.block w.heap.size hszr (by simp; omega)).trans HBX.out)
        have hsz5 := Nat.lt_of_lt_of_le hszr hg5.size
        have hsg5 := hg5.size
        clear hs5 hg5
        go_wp2_with (at_builtin; refine wpList_append_own _ rfl _ _ 28 rfl w2.heap.size 2 i0 (.int .i64 0) 1 8 Tryd.underlying28 hi hz0 hz1 hz2 rfl (by decide) _ _ _ rfl (World.ownsRow.alloc HOI5.out _) ⟨w5.heap.size, 0, none⟩ 1 1 [.int .i64 v] rfl rfl (cell_one_new _ _ _) (by simp [Value.oneCell']) (by rw [HRL.out]; unfold maxLen; omega) (by rw [HRL.out]; omega) (by simp; omega) ?_; intro v' w6 hown6 hgrow6 _; have h6 := (show OwnI w6 w2.heap.size v' (r ++ [v]) by unfold OwnI; rw [vals_snoc, List.length_append]; exact hown6); have H6 := Lib.hid h6; obtain ⟨b6, o6, c6, hv6, hc6, hl6⟩ := own_last h6 HRL.out; subst hv6; have HGR6 := Lib.hid hgrow6; have hj6 : (j : Int) < ((j + 1 : Nat) : Int) := (by omega); clear hown6 hgrow6 h6)
        have hgp := grown_pre (al_b w5 (.cells #[.int .i64 v] 2)) HGR6.out
        have HS6 := Lib.hid (HS5.out.kept HLO.out hgp (fun b hb => by have := (row_lt HOI5.out hb).1; omega))
        have HG6 := Lib.hid (grown_mixd HG5.out hgp (fun b hb => by have := (row_lt HOI5.out hb).1; omega))
        have HB6 := Lib.hid (show Boxes1 w6 w.heap.size from (hgp.block w.heap.size hsz5 (fun e => by have := (row_lt HOI5.out e.symm).1; omega)).trans HB5.out)
        go_wp2_with fail
        go_roundw
        case rel => exact ⟨j + 1, r ++ [v], k5, S + v, by omega, by go_num, by go_num, by omega, by omega, by simp [HRL.out], fun x hx => by rcases List.mem_append.1 hx with h | h; exact HRE.out x h; simp at h; subst h; exact ⟨vv0, vv1⟩, H6.out, HG6.out, HS6.out, by omega, HB6.out, by have := hgp.size; omega⟩
        case measure => simp [intOf]; omega
      · have hj0 : ¬ (j : Int) < (m : Int) := by omega
        have hE : j = m := by omega
        subst hE
        obtain ⟨ua, uc, hu5⟩ := rowForm HOI.out
        rw [HRL.out] at hu5
        subst hu5
        have HIN := Lib.hid (Ints_of_own HOI.out)
        have HW9 := Lib.hid (show ∀ i, i < r.length → 0 ≤ nth r i ∧ nth r i ≤ 1000 from fun i hi => by
          rw [nth_lt hi]
          have := HRE.out _ (List.getElem_mem hi)
          omega)
        go_wp2_with fail
        refine (pick_any q a zs c kk (S + 2) wr HSI.out (by omega) (by omega) (by omega)).mono ?_
        rintro e w5 ⟨⟨v, rfl, vv0, vv1⟩, ⟨k5, hk5, hs5⟩, hg5⟩
        have HIN5 := Lib.hid (Ints_of_own (HOI.out.far hg5 (show q < w2.heap.size by omega)))
        have HS5 := Lib.hid hs5
        have HG5 := Lib.hid (grown_trans HGI.out hg5)
        have hB5 : Boxes1 w5 w.heap.size := (hg5.block w.heap.size hszr (by simp; omega)).trans HBX.out
        have HB5 := Lib.hid hB5
        have hsz5 := Nat.lt_of_lt_of_le hszr hg5.size
        clear hs5 hg5 hB5
        go_wp2_with fail
        refine (show Calls Tryd.prog 79 #[.slice ua j uc, .int .i64 v] w5 _ from HRL.out ▸ l01Weighted_any ua r uc v w5 HIN5.out (by rw [HRL.out]; exact m1) (by rw [HRL.out]; exact m7) HW9.out).mono ?_
        rintro e w6 ⟨⟨a2, c2, rfl, hrows, hlens⟩, hb6⟩
        have hf' := HB5.out.step hb6
        have c0 := hf'.c0
        have c1 := hf'.c1
        have f0 := hf'.f 0
        have f1 := hf'.f 1
        have fl := hf'.lt
        have HRR := Lib.hid hrows
        have HG6 := Lib.hid (grown_trans HG5.out (grown_below (g := q) hb6))
        have HS6 := Lib.hid (HS5.out.quiet hb6)
        have HFO := Lib.hid (show FamOk (r.length : Nat) (famOf r.length (heavy r v)) from famOk_of (by rw [HRL.out]; exact m1) (by rw [HRL.out]; exact m7) (heavy_mono (fun i hi => (HW9.out i hi).1) v r.length))
        rw [HRL.out] at HFO
        clear hrows hlens hb6 hf'
        generalize famOf j (heavy r v) = Z at *
        go_wp2_with fail
        refine bodyPost_ret (v := .agg #[.int .i64 (j : Nat), .slice a2 Z.length c2]) (by simp [results, Tryd.results50, go_sem, c0, c1]) rfl ?_
        exact ⟨⟨a2, Z, c2, rfl, HFO.out, ((HRR.out.set hsz5 0 _).set hsz5 1 _).mono (Nat.le_of_lt hsz5)⟩, ⟨k5, by omega, (HS6.out.kept HLO.out (grown_put _ w.heap.size 0 _) (fun r hr => by cases hr; exact Nat.le_refl _)).kept HLO.out (grown_put _ w.heap.size 1 _) (fun r hr => by cases hr; exact Nat.le_refl _)⟩, grown_mixd (grown_mixd HG6.out (grown_put _ w.heap.size 0 _) (fun r hr => by cases hr; exact Nat.le_refl _)) (grown_put _ w.heap.size 1 _) (fun r hr => by cases hr; exact Nat.le_refl _)⟩
  | false =>
    go_wp2_with fail
    have hba := al_b w2 (.cells #[] 28)
    have hown0 : Own (w2.alloc (.cells #[] 28)) w2.heap.size (.slice (some ⟨w2.heap.size, 0, none⟩) 0 0) [] ([] : List (List Int)) := by
      exact ⟨World.ownsRow_made w2 (base := w2.heap.size) (e := 28) (size := 1) #[] 0 (Nat.le_refl _) (by unfold maxLen; omega) rfl, RowsOwn.nil _ _⟩
    have HOW := Lib.hid hown0
    have HS3 := Lib.hid (HS2.out.quiet hba)
    have HG3 := Lib.hid (grown_trans HG2.out (grown_below (g := q) hba))
    have hB3 := HO2.out.step hba
    have HO3 := Lib.hid hB3
    have hsz3 : w.heap.size < (w2.alloc (.cells #[] 28)).heap.size := hB3.lt
    have hs4 : w2.heap.size < (w2.alloc (.cells #[] 28)).heap.size := by simp
    clear hown0 hba hB3
    generalize w2.alloc (.cells #[] 28) = w4 at *
    generalize (Value.slice (some ⟨w2.heap.size, 0, none⟩) 0 0) = v0 at *
    refine (pick_any q a zs c k2 5 w4 HS3.out (by omega) (by omega) (by omega)).mono ?_
    rintro e w5 ⟨⟨d, rfl, d0, d1⟩, ⟨k5, hk5, hs5⟩, hg5⟩
    obtain ⟨D, rfl⟩ : ∃ D : Nat, d = D := ⟨d.toNat, by omega⟩
    have hs25 := hg5.size
    have HOW5 := Lib.hid (HOW.out.off hg5 (show q < w2.heap.size by omega))
    have HS5 := Lib.hid hs5
    have HG5 := Lib.hid (grown_trans HG3.out hg5)
    have HB5 := Lib.hid (show Boxes1 w5 w.heap.size from (hg5.block w.heap.size hsz3 (by simp; omega)).trans HO3.out)
    clear hs5 hg5 HOW HS3 HG3 HO3 HS2 HG2 HO2
    go_wp2_with fail
    go_loopw [8, 9] (fun v i wi => ∃ (j : Nat) (us : List Value) (z : List (List Int)) (kk : Nat), j ≤ D ∧ i = .int .i64 ((D : Int) - (j : Int)) ∧ z.length = j ∧ (∀ r ∈ z, ∃ x, x < 2 ^ m ∧ r = listOf x) ∧ Own wi w2.heap.size v us z ∧ w.grownBy wi (some q) ∧ Src wi q a zs c kk ∧ kk ≤ k5 + j ∧ Boxes1 wi w.heap.size ∧ w2.heap.size < wi.heap.size)
      (fun _ i _ => (intOf i).toNat)
    case atStart => exact ⟨0, [], [], k5, Nat.zero_le _, by go_num, rfl, by simp, HOW5.out, HG5.out, HS5.out, by omega, HB5.out, by omega⟩
    case round =>
      obtain ⟨j, us, z, kk, hj, rfl, hzl, hze, ho, hgi, hsi, hkk, hbx, hw2r⟩ := hrel
      have HZL := Lib.hid hzl
      have HZE := Lib.hid hze
      have HOQ := Lib.hid ho
      have HGI := Lib.hid hgi
      have HSI := Lib.hid hsi
      have HBX := Lib.hid hbx
      have hszr : w.heap.size < wr.heap.size := hbx.lt
      clear hzl hze ho hgi hsi hbx HOW5 HS5 HG5 HB5
      by_cases hltj : j < D
      · have hj0 : (0 : Int) < (D : Int) - (j : Int) := by omega
        have hpw := wrap64_two (n := m) m7
        have h128 := pow_128 m7
        have hp0 : 1 ≤ 2 ^ m := Nat.pow_pos (by decide)
        obtain ⟨P, hP⟩ : ∃ P, P = 2 ^ m := ⟨_, rfl⟩
        rw [← hP] at hpw h128 hp0
        have HPP := Lib.hid hP
        clear hP
        have hm0 : (0 : Int) ≤ (m : Int) := by omega
        have hm64 : (m : Int) < 64 := by omega
        obtain ⟨va, vc, hv⟩ := rowForm HOQ.out.row
        subst hv
        rw [HZL.out]
        go_wp2_with fail
        clear hpw
        refine (pick_any q a zs c kk P wr HSI.out (by omega) (by omega) (by omega)).mono ?_
        rintro e w5 ⟨⟨v, rfl, vv0, vv1⟩, ⟨k6, hk6, hs5⟩, hg5⟩
        obtain ⟨x, rfl⟩ : ∃ x : Nat, v = x := ⟨v.toNat, by omega⟩
        have HOQ5 := Lib.hid (HOQ.out.off hg5 (show q < w2.heap.size by omega))
        have HS5 := Lib.hid hs5
        have HG5 := Lib.hid (grown_trans HGI.out hg5)
        have HB5 := Lib.hid (show Boxes1 w5 w.heap.size from (hg5.block w.heap.size hszr (by simp; omega)).trans HBX.out)
        have hsz5 := Nat.lt_of_lt_of_le hszr hg5.size
        have hsg5 := hg5.size
        clear hs5 hg5
        go_wp2_with fail
        refine (l01Of_any x w5 (by omega)).mono ?_
        rintro e w6 ⟨⟨u, rfl, hou⟩, hb6⟩
        obtain ⟨ua, uc, hu5⟩ := rowForm hou
        subst hu5
        have HOU := Lib.hid hou
        have HBW6 := Lib.hid hb6
        have HS6 := Lib.hid (HS5.out.quiet hb6)
        have HG6 := Lib.hid (grown_trans HG5.out (grown_below (g := q) hb6))
        have HB6 := Lib.hid (HB5.out.step hb6)
        have hsz6 := Nat.lt_of_lt_of_le hsz5 hb6.size
        have HROW6 := Lib.hid (row_step HOQ5.out.row hb6)
        have hs6 := hb6.size
        clear hou hb6
        generalize hlu : (listOf x).length = lu at *
        go_wp2_with (at_builtin; refine wpList_append_own _ rfl _ _ 24 rfl w2.heap.size 28 i1 (.slice none 0 0) 1 24 Tryd.underlying24 ji jz0 jz1 jz2 rfl (by decide) _ _ us rfl (World.ownsRow.alloc (by have h9 := HROW6.out; rw [HZL.out] at h9; exact h9) _) ⟨w6.heap.size, 0, none⟩ 1 1 [(.slice ua lu uc)] rfl rfl (cell_one_new _ _ _) (by simp [Value.oneCell']) (by unfold maxLen; omega) (by omega) (by simp; omega) ?_; intro v' w7 hown7 hgrow7 _; have HO7 := Lib.hid hown7; have HGR7 := Lib.hid hgrow7; clear hown7 hgrow7)
        have hrow6 := (by have h9 := HROW6.out; rw [HZL.out] at h9; exact h9 : w6.ownsRow w2.heap.size 28 1 (.slice va j vc) j us)
        have hgp := grown_pre (al_b w6 (.cells #[(.slice ua lu uc)] 28)) HGR7.out
        have hge : ∀ b, (Value.slice va j vc).ownBlock = some b → w2.heap.size ≤ b ∧ b < w6.heap.size := fun b hb => row_lt hrow6 hb
        have HS7 := Lib.hid (HS6.out.kept HLO.out hgp (fun b hb => by have := (hge b hb).1; omega))
        have HG7 := Lib.hid (grown_mixd HG6.out hgp (fun b hb => by have := (hge b hb).1; omega))
        have HB7 := Lib.hid (show Boxes1 w7 w.heap.size from (hgp.block w.heap.size hsz6 (fun e => by have := (hge _ e.symm).1; omega)).trans HB6.out)
        go_wp2_with fail
        go_roundw
        case rel =>
          refine ⟨j + 1, us ++ [(.slice ua lu uc)], z ++ [listOf x], k6, by omega, by go_num, by simp [HZL.out], ?_, ⟨?_, ?_⟩, HG7.out, HS7.out, by omega, HB7.out, by have := hgp.size; omega⟩
          · intro r hr
            rcases List.mem_append.1 hr with h | h
            · exact HZE.out r h
            · simp at h; subst h; exact ⟨x, by have := HPP.out; omega, rfl⟩
          · rw [List.length_append, HZL.out]; exact HO7.out
          · exact (HOQ5.out.rows.snoc HBW6.out HOU.out (by omega)).map fun u zs ho => (World.ownsRow.alloc ho _).kept HGR7.out (rows_apart ho hrow6 (by decide))
        case measure => simp [intOf]; omega
      · have hj0 : ¬ (0 : Int) < (D : Int) - (j : Int) := by omega
        obtain ⟨va, vc, hv, hr2⟩ := HOQ.out.rows2
        subst hv
        have hmem : ∀ i, i < z.length → ∃ x, x < 2 ^ m ∧ nthL z i = listOf x := fun i hi => HZE.out _ (by rw [nthL_lt hi]; exact List.getElem_mem _)
        have HGR := Lib.hid (show ∀ i, i < z.length → IsGrp (m : Nat) (nthL z i) from fun i hi => by
          obtain ⟨x, hx, e⟩ := hmem i hi
          rw [e]; exact grp_list m7 hx)
        have HLN := Lib.hid (show Lens z from ⟨by rw [HZL.out]; omega, fun r hr => by
          obtain ⟨x, hx, e⟩ := hmem r hr
          rw [e]
          have := listTo_len x 7
          unfold listOf; omega⟩)
        have hb3 := al_b wr (.cells #[.int .i64 (m : Nat), .slice va z.length vc] 26)
        have hbox : FamBox (wr.alloc (.cells #[.int .i64 (m : Nat), .slice va z.length vc] 26)) wr.heap.size (m : Nat) va z.length vc := ⟨by simp [go_sem], by simp [go_sem]⟩
        have HFB := Lib.hid hbox
        have HR3 := Lib.hid (hr2.step hb3)
        have HS3 := Lib.hid (HSI.out.quiet hb3)
        have HG3 := Lib.hid (grown_trans HGI.out (grown_below (g := q) hb3))
        have hB3 := HBX.out.step hb3
        have HB3 := Lib.hid hB3
        have hsz3 : w.heap.size < (wr.alloc (.cells #[.int .i64 (m : Nat), .slice va z.length vc] 26)).heap.size := hB3.lt
        obtain ⟨N, hN⟩ : ∃ N, N = 2 ^ m := ⟨_, rfl⟩
        have HN := Lib.hid hN
        clear hN hmem hbox hr2 hb3 hB3 HOQ HZE
        go_wp2_with fail
        generalize wr.alloc (.cells #[.int .i64 (m : Nat), .slice va z.length vc] 26) = w5 at *
        generalize wr.heap.size = fb at *
        refine (l01Table_any m N fb va z vc w5 m1 m7 HN.out HFB.out HR3.out HLN.out HGR.out).mono ?_
        rintro e w6 ⟨rfl, hbo, hb6⟩
        have HBO := Lib.hid hbo
        have HS6 := Lib.hid (HS3.out.quiet hb6)
        have HG6 := Lib.hid (grown_trans HG3.out (grown_below (g := q) hb6))
        have HB6 := Lib.hid (HB3.out.step hb6)
        have hsz6 := Nat.lt_of_lt_of_le hsz3 hb6.size
        clear hbo hb6
        go_wp2_with fail
        refine (l01From_any m N N _ (tblAt z z.length) w6 m1 m7 HN.out HBO.out).mono ?_
        rintro e w7 ⟨⟨a2, c2, rfl, hrows, hlens⟩, hb7⟩
        have hf' := HB6.out.step hb7
        have c0 := hf'.c0
        have c1 := hf'.c1
        have f0 := hf'.f 0
        have f1 := hf'.f 1
        have fl := hf'.lt
        have HRR := Lib.hid hrows
        have HG7 := Lib.hid (grown_trans HG6.out (grown_below (g := q) hb7))
        have HS7 := Lib.hid (HS6.out.quiet hb7)
        have HFO := Lib.hid (show FamOk (m : Nat) (famOf m (tblAt z z.length)) from famOk_of m1 m7 (tbl_mono m z z.length))
        clear hrows hlens hb7 hf'
        generalize famOf m (tblAt z z.length) = Z at *
        go_wp2_with fail
        refine bodyPost_ret (v := .agg #[.int .i64 (m : Nat), .slice a2 Z.length c2]) (by simp [results, Tryd.results50, go_sem, c0, c1]) rfl ?_
        exact ⟨⟨a2, Z, c2, rfl, HFO.out, ((HRR.out.set hsz6 0 _).set hsz6 1 _).mono (Nat.le_of_lt hsz6)⟩, ⟨kk, by omega, (HS7.out.kept HLO.out (grown_put _ w.heap.size 0 _) (fun r hr => by cases hr; exact Nat.le_refl _)).kept HLO.out (grown_put _ w.heap.size 1 _) (fun r hr => by cases hr; exact Nat.le_refl _)⟩, grown_mixd (grown_mixd HG7.out (grown_put _ w.heap.size 0 _) (fun r hr => by cases hr; exact Nat.le_refl _)) (grown_put _ w.heap.size 1 _) (fun r hr => by cases hr; exact Nat.le_refl _)⟩
end Go.Proofs.YteifllengcacbaaDoor

namespace Go.Proofs.YteifllengcacbaaDoor
open Go.RowKit Go.Deep Go.Joins
set_option linter.unusedVariables false

set_option maxRecDepth 100000 in
set_option maxHeartbeats 1000000 in
theorem l01Some_any (q : Nat) (a : Option Addr) (zs : List Int) (c k0 : Nat) (w : World) (h : Src w q a zs c k0) (hk0 : k0 ≤ 900) :
    Calls Tryd.prog 42 #[.pointer (some ⟨q, 0, none⟩)] w fun e w' => (∃ m, 1 ≤ m ∧ m ≤ 5 ∧ GivesOk w m e w') ∧ w.grownBy w' (some q) := by
  have HLO := Lib.hid h.low
  have hq := h.low.1
  have hb0 := al_b w (.cells #[.int .i64 0, .slice none 0 0] 26)
  have hbo : Boxes1 (w.alloc (.cells #[.int .i64 0, .slice none 0 0] 26)) w.heap.size := World.alloc_heap_new _ _
  have HS0 := Lib.hid (h.quiet hb0)
  have HG0 := Lib.hid (grown_below (g := q) hb0)
  clear h hb0
  go_enter Tryd.func42, Tryd.ntmps42
  go_wp2_with fail
  generalize w.alloc (.cells #[.int .i64 0, .slice none 0 0] 26) = w1 at *
  have HO := Lib.hid hbo
  have hsz1 : w.heap.size < w1.heap.size := hbo.lt
  clear hbo
  refine (pick_any q a zs c k0 5 w1 HS0.out (by omega) (by omega) (by omega)).mono ?_
  rintro e w2 ⟨⟨v, rfl, v0, v1⟩, ⟨k2, hk2, hs2⟩, hg2⟩
  obtain ⟨j, rfl⟩ : ∃ j : Nat, v = j := ⟨v.toNat, by omega⟩
  have HS2 := Lib.hid hs2
  have HG2 := Lib.hid (grown_trans HG0.out hg2)
  have hO2 : Boxes1 w2 w.heap.size := (hg2.block w.heap.size hsz1 (by simp; omega)).trans HO.out
  have HO2 := Lib.hid hO2
  have hsz2 : w.heap.size < w2.heap.size := hO2.lt
  clear hs2 hg2 HO HS0 HG0 hO2
  go_wp2_with fail
  obtain ⟨m, hm⟩ : ∃ m, m = 1 + j := ⟨_, rfl⟩
  rw [show (1 : Int) + (j : Int) = (m : Int) by omega]
  have m1 : 1 ≤ m := by omega
  have m5 : m ≤ 5 := by omega
  clear hm
  refine (l01Drawn_any q a zs c k2 m w2 HS2.out (by omega) (by omega) (by omega)).mono ?_
  rintro e w3 ⟨⟨a3, z3, c3, rfl, hok, hrows⟩, -, hg3⟩
  have hO3 : Boxes1 w3 w.heap.size := (hg3.block w.heap.size hsz2 (by simp; omega)).trans HO2.out
  have c0 := hO3.c0
  have c1 := hO3.c1
  have f0 := hO3.f 0
  have f1 := hO3.f 1
  have fl := hO3.lt
  have HRR := Lib.hid hrows
  have HOK := Lib.hid hok
  have HG3 := Lib.hid (grown_trans HG2.out hg3)
  clear hok hrows hg3 hO3
  go_wp2_with fail
  refine bodyPost_ret (v := .agg #[.int .i64 (m : Nat), .slice a3 z3.length c3]) (by simp [results, Tryd.results42, go_sem, c0, c1]) rfl ?_
  exact ⟨⟨m, m1, m5, ⟨a3, z3, c3, rfl, HOK.out, ((HRR.out.set hsz2 0 _).set hsz2 1 _).mono (Nat.le_of_lt hsz2)⟩⟩, grown_mixd (grown_mixd HG3.out (grown_put _ w.heap.size 0 _) (fun r hr => by cases hr; exact Nat.le_refl _)) (grown_put _ w.heap.size 1 _) (fun r hr => by cases hr; exact Nat.le_refl _)⟩

/-- What gives a valid family of m holders, to be read. -/
structure GivesF (w' : World) (m : Nat) (e : Ending) : Prop where
  val : ∃ a z c, e = .returned (.agg #[.int .i64 (m : Nat), .slice a z.length c]) ∧ FamOk (m : Int) z ∧ Rows2 w' a z
set_option maxRecDepth 100000 in
set_option maxHeartbeats 1000000 in
theorem A2Family_any (a : Option Addr) (zs : List Int) (c : Nat) (w : World) (h : Bytes w a zs) (hl : zs.length ≤ 3000) :
    Calls Tryd.prog 12 #[.slice a zs.length c] w fun e w' => (∃ m, 1 ≤ m ∧ m ≤ 5 ∧ GivesF w' m e) ∧ Below w.heap.size w w' := by
  have hb0 := al_b w (.cells #[.int .i64 0, .slice none 0 0] 26)
  have hbo : Boxes1 (w.alloc (.cells #[.int .i64 0, .slice none 0 0] 26)) w.heap.size := World.alloc_heap_new _ _
  have HB := Lib.hid (h.step hb0)
  have HB0 := Lib.hid hb0
  clear h hb0
  go_enter Tryd.func12, Tryd.ntmps12
  go_wp2_with fail
  generalize w.alloc (.cells #[.int .i64 0, .slice none 0 0] 26) = w1 at *
  have HO := Lib.hid hbo
  have hsz1 : w.heap.size < w1.heap.size := hbo.lt
  clear hbo
  refine (l00From_any a zs c w1 HB.out hl).mono ?_
  rintro e w2 ⟨rfl, hs2, hb2⟩
  have HS2 := Lib.hid hs2
  have hO2 := HO.out.step hb2
  have HO2 := Lib.hid hO2
  have hsz2 : w.heap.size < w2.heap.size := hO2.lt
  have HB2 := Lib.hid (chain HB0.out hb2)
  generalize hqq : w1.heap.size = q at *
  clear hs2 hb2 HO HB hO2
  go_wp2_with fail
  refine (l01Some_any q a zs c 0 w2 HS2.out (by omega)).mono ?_
  rintro e w3 ⟨⟨m, m1, m5, ⟨a3, z3, c3, rfl, hok, hrows⟩⟩, hg3⟩
  have hO3 : Boxes1 w3 w.heap.size := (hg3.block w.heap.size hsz2 (by simp; omega)).trans HO2.out
  have c0 := hO3.c0
  have c1 := hO3.c1
  have f0 := hO3.f 0
  have f1 := hO3.f 1
  have fl := hO3.lt
  have HRR := Lib.hid hrows
  have HOK := Lib.hid hok
  have HB3 := Lib.hid (below_grown1 HB2.out hg3 (Nat.le_of_lt hsz2) (by omega))
  clear hok hrows hg3 hO3
  go_wp2_with fail
  refine bodyPost_ret (v := .agg #[.int .i64 (m : Nat), .slice a3 z3.length c3]) (by simp [results, Tryd.results12, go_sem, c0, c1]) rfl ?_
  exact ⟨⟨m, m1, m5, ⟨a3, z3, c3, rfl, HOK.out, ((HRR.out.set hsz2 0 _).set hsz2 1 _).rows⟩⟩, (HB3.out.setCell (by simp) _).setCell (by simp) _⟩
set_option maxRecDepth 100000 in
set_option maxHeartbeats 1000000 in
theorem A2FamilyOf_any (a : Option Addr) (zs : List Int) (c m : Nat) (w : World) (h : Bytes w a zs) (hl : zs.length ≤ 3000) (m1 : 1 ≤ m) (m7 : m ≤ 7) :
    Calls Tryd.prog 22 #[.slice a zs.length c, .int .i64 (m : Nat)] w fun e w' => GivesF w' m e ∧ Below w.heap.size w w' := by
  have hb0 := al_b w (.cells #[.int .i64 0, .slice none 0 0] 26)
  have hbo : Boxes1 (w.alloc (.cells #[.int .i64 0, .slice none 0 0] 26)) w.heap.size := World.alloc_heap_new _ _
  have HB := Lib.hid (h.step hb0)
  have HB0 := Lib.hid hb0
  clear h hb0
  go_enter Tryd.func22, Tryd.ntmps22
  go_wp2_with fail
  generalize w.alloc (.cells #[.int .i64 0, .slice none 0 0] 26) = w1 at *
  have HO := Lib.hid hbo
  have hsz1 : w.heap.size < w1.heap.size := hbo.lt
  clear hbo
  refine (l00From_any a zs c w1 HB.out hl).mono ?_
  rintro e w2 ⟨rfl, hs2, hb2⟩
  have HS2 := Lib.hid hs2
  have hO2 := HO.out.step hb2
  have HO2 := Lib.hid hO2
  have hsz2 : w.heap.size < w2.heap.size := hO2.lt
  have HB2 := Lib.hid (chain HB0.out hb2)
  generalize hqq : w1.heap.size = q at *
  clear hs2 hb2 HO HB hO2
  go_wp2_with fail
  refine (l01Drawn_any q a zs c 0 m w2 HS2.out (by omega) m1 m7).mono ?_
  rintro e w3 ⟨⟨a3, z3, c3, rfl, hok, hrows⟩, -, hg3⟩
  have hO3 : Boxes1 w3 w.heap.size := (hg3.block w.heap.size hsz2 (by simp; omega)).trans HO2.out
  have c0 := hO3.c0
  have c1 := hO3.c1
  have f0 := hO3.f 0
  have f1 := hO3.f 1
  have fl := hO3.lt
  have HRR := Lib.hid hrows
  have HOK := Lib.hid hok
  have HB3 := Lib.hid (below_grown1 HB2.out hg3 (Nat.le_of_lt hsz2) (by omega))
  clear hok hrows hg3 hO3
  go_wp2_with fail
  refine bodyPost_ret (v := .agg #[.int .i64 (m : Nat), .slice a3 z3.length c3]) (by simp [results, Tryd.results22, go_sem, c0, c1]) rfl ?_
  exact ⟨⟨a3, z3, c3, rfl, HOK.out, ((HRR.out.set hsz2 0 _).set hsz2 1 _).rows⟩, (HB3.out.setCell (by simp) _).setCell (by simp) _⟩
theorem put_fact : ∀ k : Nat, k < 7 → ∀ x : Nat, x < 128 → x < 2 ^ k → listOf (x ||| 2 ^ k) = listOf x ++ [(k : Int)] := by decide +kernel
theorem listOf_0 : listOf 0 = [] := by decide +kernel
/-- What gives a group of m holders. -/
structure GivesG (w' : World) (m : Nat) (e : Ending) : Prop where
  val : ∃ x a c, x < 2 ^ m ∧ e = .returned (.slice a (listOf x).length c) ∧ Ints w' a (listOf x)
set_option maxRecDepth 100000 in
set_option maxHeartbeats 1000000 in
theorem A2Group_any (a : Option Addr) (zs : List Int) (c m : Nat) (w : World) (h : Bytes w a zs) (hl : zs.length ≤ 3000) (m7 : m ≤ 7) :
    Calls Tryd.prog 13 #[.slice a zs.length c, .int .i64 (m : Nat)] w fun e w' => GivesG w' m e ∧ Below w.heap.size w w' := by
  have HB := Lib.hid h
  clear h
  obtain ⟨i0, hi, hz0, hz1, hz2⟩ := info_parts Tryd.infoInt64
  go_enter Tryd.func13, Tryd.ntmps13
  go_wp2_with fail
  refine (l00From_any a zs c w HB.out hl).mono ?_
  rintro e w1 ⟨rfl, hs1, hb1⟩
  have hq : w.heap.size < w1.heap.size := hs1.low.1
  generalize hqq : w.heap.size = q at *
  have HS1 := Lib.hid hs1
  have HB1 := Lib.hid hb1
  clear hs1 hb1 HB
  go_wp2_with fail
  have hown0 : OwnI (w1.alloc (.cells #[] 2)) w1.heap.size (.slice (some ⟨w1.heap.size, 0, none⟩) 0 0) (listOf 0) := by
    rw [listOf_0]
    exact World.ownsRow_made w1 (base := w1.heap.size) (e := 2) (size := 1) #[] 0 (Nat.le_refl _) (by unfold maxLen; omega) rfl
  have HOW := Lib.hid hown0
  have hba := al_b w1 (.cells #[] 2)
  have HSA := Lib.hid (HS1.out.quiet hba)
  have HGA := Lib.hid (grown_below (g := q) hba)
  have HLO := Lib.hid HS1.out.low
  clear hown0 hba
  generalize w1.alloc (.cells #[] 2) = w4 at *
  generalize (Value.slice (some ⟨w1.heap.size, 0, none⟩) 0 0) = v0 at *
  go_loopw [6, 7] (fun v i wi => ∃ (j x kk : Nat), j ≤ m ∧ i = .int .i64 j ∧ x < 2 ^ j ∧ OwnI wi w1.heap.size v (listOf x) ∧ w1.grownBy wi (some q) ∧ Src wi q a zs c kk ∧ kk ≤ j)
    (fun _ i _ => m - (intOf i).toNat)
  case atStart => exact ⟨0, 0, 0, Nat.zero_le _, rfl, by simp, HOW.out, HGA.out, HSA.out, by omega⟩
  case round =>
    obtain ⟨j, x, kk, hj, rfl, hx, ho, hgi, hsi, hkk⟩ := hrel
    have HX := Lib.hid hx
    have HOI := Lib.hid ho
    have HGI := Lib.hid hgi
    have HSI := Lib.hid hsi
    have hsz := hgi.size
    clear hx ho hgi hsi HOW HGA HSA
    by_cases hltj : j < m
    · have hj0 : (j : Int) < (m : Int) := by omega
      go_wp2_with fail
      refine (one_any q a zs c kk 2 wr HSI.out (by omega) (by omega) (by omega)).mono ?_
      rintro e w5 ⟨⟨bb, rfl⟩, ⟨k5, hk5, hs5⟩, hg5⟩
      have HOI5 := Lib.hid (HOI.out.far hg5 hq)
      have HS5 := Lib.hid hs5
      have HG5 := Lib.hid (grown_trans HGI.out hg5)
      have hsz5 := Nat.le_trans hsz hg5.size
      have HP := Lib.hid (put_fact j (by omega) x (by have := HX.out; have := pow_128 (m := j) (by omega); omega) HX.out)
      have HX2 := Lib.hid (show x ||| 2 ^ j < 2 ^ (j + 1) from Nat.or_lt_two_pow (by have := HX.out; rw [Nat.pow_succ]; omega) (Nat.pow_lt_pow_right (by omega) (by omega)))
      have HX3 := Lib.hid (show x < 2 ^ (j + 1) by have := HX.out; rw [Nat.pow_succ]; omega)
      have hll := listTo_len x 7
      have hll2 : (listOf x).length ≤ 7 := hll
      clear hs5 hg5 hll
      cases bb with
      | false =>
        go_wp2_with fail
        go_roundw
        case rel => exact ⟨j + 1, x, k5, by omega, by go_num, HX3.out, HOI5.out, HG5.out, HS5.out, by omega⟩
        case measure => simp [intOf]; omega
      | true =>
        go_wp2_with (at_builtin; refine wpList_append_own _ rfl _ _ 28 rfl w1.heap.size 2 i0 (.int .i64 0) 1 8 Tryd.underlying28 hi hz0 hz1 hz2 rfl (by decide) _ _ _ rfl (World.ownsRow.alloc HOI5.out _) ⟨w5.heap.size, 0, none⟩ 1 1 [.int .i64 j] rfl rfl (cell_one_new _ _ _) (by simp [Value.oneCell']) (by unfold maxLen; omega) (by omega) (by simp; omega) ?_; intro v' w6 hown6 hgrow6 _; have HO6 := Lib.hid hown6; have HGR6 := Lib.hid hgrow6; clear hown6 hgrow6)
        have H6 := Lib.hid (show OwnI w6 w1.heap.size v' (listOf (x ||| 2 ^ j)) by
          rw [HP.out]
          unfold OwnI; rw [vals_snoc, List.length_append]; exact HO6.out)
        have hgp := grown_pre (al_b w5 (.cells #[.int .i64 j] 2)) HGR6.out
        have HS6 := Lib.hid (HS5.out.kept HLO.out hgp (fun b hb => (row_lt HOI5.out hb).1))
        have HG6 := Lib.hid (grown_mixd HG5.out hgp (fun b hb => (row_lt HOI5.out hb).1))
        clear hgp
        go_wp2_with fail
        go_roundw
        case rel => exact ⟨j + 1, x ||| 2 ^ j, k5, by omega, by go_num, HX2.out, H6.out, HG6.out, HS6.out, by omega⟩
        case measure => simp [intOf]; omega
    · have hj0 : ¬ (j : Int) < (m : Int) := by omega
      have hE : j = m := by omega
      subst hE
      obtain ⟨ua, uc, hu5⟩ := rowForm HOI.out
      subst hu5
      go_wp2_with fail
      go_ret
      exact ⟨⟨x, ua, uc, HX.out, rfl, Ints_of_own HOI.out⟩, below_grown1 HB1.out HGI.out (by omega) (Nat.le_refl _)⟩
end Go.Proofs.YteifllengcacbaaDoor

namespace Go.Proofs.YteifllengcacbaaDoor
open Go.RowKit Go.Deep Go.Joins
set_option linter.unusedVariables false

set_option maxRecDepth 100000 in
theorem a2Has_any (a : Option Addr) (zs : List Int) (c : Nat) (n : Int) (w : World) (h : Ints w a zs) (hl : zs.length ≤ 9223372036854775807) :
    Calls Tryd.prog 20 #[.slice a zs.length c, .int .i64 n] w fun e w' => e = .returned (.bool (tell (n ∈ zs))) ∧ w = w' := by
  go_enter Tryd.func20, Tryd.ntmps20
  go_wp2_with fail
  go_loop [5] (fun i => ∃ k : Nat, i = .int .i64 k ∧ k ≤ zs.length ∧ ∀ j, j < k → nth zs j ≠ n) (fun i => zs.length - (intOf i).toNat)
  case atStart => exact ⟨0, rfl, Nat.zero_le _, fun j hj => absurd hj (Nat.not_lt_zero _)⟩
  case round =>
    obtain ⟨k, rfl, hk, hs⟩ := hrel
    have HS := Lib.hid hs
    clear hs
    by_cases hlt : k < zs.length
    · rcases h with h | ⟨b, o, rfl, hc⟩
      · rw [h] at hlt; exact absurd hlt (Nat.not_lt_zero _)
      have hcell := hc k hlt
      have hi0 : (k : Int) < (zs.length : Int) := by omega
      clear hc
      by_cases he : nth zs k = n
      · have hq : (nth zs k == n) = true := by simp [he]
        have HN := Lib.hid (tell_true (p := n ∈ zs) (by rw [← he, nth_lt hlt]; exact List.getElem_mem _))
        clear he
        go_wp2_with fail
        go_ret
        exact ⟨ret_bool HN.out.symm, rfl⟩
      · have hq : (nth zs k == n) = false := by simp [he]
        have HE := Lib.hid he
        clear he
        go_wp2_with fail
        go_round
        case rel => exact ⟨k + 1, by go_num, by omega, fun j hj => by
          by_cases e : j = k
          · subst e; exact HE.out
          · exact HS.out j (by omega)⟩
        case measure => simp [intOf]; omega
    · have HN := Lib.hid (tell_false (p := n ∈ zs) (fun hm => by
        obtain ⟨i, h1, h2⟩ := List.mem_iff_getElem.1 hm
        exact HS.out i (by omega) (by rw [nth_lt h1]; exact h2)))
      go_wp2_with fail
      go_ret
      exact ⟨ret_bool HN.out.symm, rfl⟩
set_option maxRecDepth 100000 in
set_option maxHeartbeats 400000 in
theorem a2Same_any (a b : Option Addr) (xs ys : List Int) (ca cb : Nat) (w : World) (ha : Ints w a xs) (hb : Ints w b ys) (hlx : xs.length ≤ 9223372036854775807) (hly : ys.length ≤ 9223372036854775807) :
    Calls Tryd.prog 18 #[.slice a xs.length ca, .slice b ys.length cb] w fun e w' => e = .returned (.bool (tell (xs = ys))) ∧ Quiet w w' := by
  by_cases hlen : xs.length = ys.length
  · have t0 : ((xs.length : Int) != (ys.length : Int)) = false := by simp [hlen]
    have t00 : (xs.length != ys.length) = false := by simp [hlen]
    have HLN := Lib.hid hlen
    clear hlen
    go_enter Tryd.func18, Tryd.ntmps18
    go_wp2
    go_loopw [5] (fun i wr => ∃ k : Nat, k ≤ xs.length ∧ i = .int .i64 k ∧ Quiet w wr ∧ ∀ j, j < k → nth xs j = nth ys j)
      (fun i _ => xs.length - (intOf i).toNat)
    case atStart => exact ⟨0, Nat.zero_le _, rfl, Quiet.refl _, fun j hj => absurd hj (Nat.not_lt_zero _)⟩
    case round =>
      obtain ⟨k, hk, rfl, hq, hall⟩ := hrel
      have HQ := Lib.hid hq
      have HA := Lib.hid hall
      have hax := ha.quiet hq
      have hbx := hb.quiet hq
      clear hall hq
      by_cases hlt : k < xs.length
      · have hlty : k < ys.length := by have := HLN.out; omega
        rcases hax with h | ⟨b1, o1, rfl, hc1⟩
        · rw [h] at hlt; exact absurd hlt (Nat.not_lt_zero _)
        rcases hbx with h | ⟨b2, o2, rfl, hc2⟩
        · rw [h] at hlty; exact absurd hlty (Nat.not_lt_zero _)
        have g1 := hc1 k hlt
        have g2 := hc2 k hlty
        have hix : (k : Int) < (xs.length : Int) := by omega
        have hiy : (k : Int) < (ys.length : Int) := by omega
        clear hc1 hc2
        by_cases hne : nth xs k = nth ys k
        · have t1 : (nth xs k != nth ys k) = false := by simp [hne]
          have HN := Lib.hid hne
          clear hne
          go_wp2
          go_quiet (fail)
          go_wp2
          go_roundw
          case rel =>
            refine ⟨k + 1, by omega, by go_num, HQ.out.trans ⟨_, rfl⟩, fun j hj => ?_⟩
            by_cases e : j = k
            · subst e; exact HN.out
            · exact HA.out j (by omega)
          case measure => simp [intOf]; omega
        · have t1 : (nth xs k != nth ys k) = true := by simp [hne]
          have HN := Lib.hid (show ¬ xs = ys from fun e => hne (by rw [e]))
          clear hne
          go_wp2
          go_quiet (fail)
          go_wp2
          go_ret
          exact ⟨ret_bool (tell_false HN.out).symm, HQ.out.trans ⟨_, rfl⟩⟩
      · have HY := Lib.hid (show xs = ys from ext_nth HLN.out (fun i hi => HA.out i (by omega)))
        go_wp2
        go_ret
        exact ⟨ret_bool (tell_true HY.out).symm, HQ.out⟩
  · have t0 : ((xs.length : Int) != (ys.length : Int)) = true := by simp; omega
    have t00 : (xs.length != ys.length) = true := by simp [hlen]
    have HN := Lib.hid (show ¬ xs = ys from fun e => hlen (by rw [e]))
    clear hlen
    go_enter Tryd.func18, Tryd.ntmps18
    go_wp2
    go_ret
    exact ⟨ret_bool (tell_false HN.out).symm, Quiet.refl _⟩
set_option maxRecDepth 100000 in
theorem a2Inside_any (a b : Option Addr) (xs ys : List Int) (ca cb : Nat) (w : World) (ha : Ints w a xs) (hb : Ints w b ys) (hlx : xs.length ≤ 9223372036854775807) (hly : ys.length ≤ 9223372036854775807) :
    Calls Tryd.prog 17 #[.slice a xs.length ca, .slice b ys.length cb] w fun e w' => e = .returned (.bool (tell (∀ z ∈ xs, z ∈ ys))) ∧ w = w' := by
  have HB := Lib.hid hb
  clear hb
  go_enter Tryd.func17, Tryd.ntmps17
  go_wp2_with fail
  go_loop [5] (fun i => ∃ k : Nat, i = .int .i64 k ∧ k ≤ xs.length ∧ ∀ j, j < k → nth xs j ∈ ys) (fun i => xs.length - (intOf i).toNat)
  case atStart => exact ⟨0, rfl, Nat.zero_le _, fun j hj => absurd hj (Nat.not_lt_zero _)⟩
  case round =>
    obtain ⟨k, rfl, hk, hs⟩ := hrel
    have HS := Lib.hid hs
    clear hs
    by_cases hlt : k < xs.length
    · rcases ha with h | ⟨b1, o1, rfl, hc⟩
      · rw [h] at hlt; exact absurd hlt (Nat.not_lt_zero _)
      have hcell := hc k hlt
      have hi0 : (k : Int) < (xs.length : Int) := by omega
      clear hc
      by_cases he : nth xs k ∈ ys
      · have HT := Lib.hid (tell_true he)
        have HE := Lib.hid he
        clear he
        go_wp2_with fail
        refine (a2Has_any b ys cb (nth xs k) _ HB.out hly).mono ?_
        rintro e w' ⟨rfl, rfl⟩
        rw [HT.out]
        go_wp2_with fail
        go_round
        case rel => exact ⟨k + 1, by go_num, by omega, fun j hj => by
          by_cases e : j = k
          · subst e; exact HE.out
          · exact HS.out j (by omega)⟩
        case measure => simp [intOf]; omega
      · have HT := Lib.hid (tell_false he)
        have HN := Lib.hid (tell_false (p := ∀ z ∈ xs, z ∈ ys) (fun h => he (h _ (by rw [nth_lt hlt]; exact List.getElem_mem _))))
        clear he
        go_wp2_with fail
        refine (a2Has_any b ys cb (nth xs k) _ HB.out hly).mono ?_
        rintro e w' ⟨rfl, rfl⟩
        rw [HT.out]
        go_wp2_with fail
        go_ret
        exact ⟨ret_bool HN.out.symm, rfl⟩
    · have HN := Lib.hid (tell_true (p := ∀ z ∈ xs, z ∈ ys) (fun z hm => by
        obtain ⟨i, h1, h2⟩ := List.mem_iff_getElem.1 hm
        have := HS.out i (by omega)
        rw [nth_lt h1, h2] at this; exact this))
      go_wp2_with fail
      go_ret
      exact ⟨ret_bool HN.out.symm, rfl⟩
set_option maxRecDepth 100000 in
set_option maxHeartbeats 1000000 in
theorem a2Others_any (a : Option Addr) (zs : List Int) (c m : Nat) (w : World) (hr : Ints w a zs) (hm : m ≤ 7) (hl : zs.length ≤ 1048576) (hz : ∀ z ∈ zs, 0 ≤ z ∧ z < (m : Int)) :
    Calls Tryd.prog 21 #[.slice a zs.length c, .int .i64 (m : Nat)] w (GivesInts w (listOf (2 ^ m - 1 - bitsOf zs))) := by
  obtain ⟨i0, hi, hz0, hz1, hz2⟩ := info_parts Tryd.infoInt64
  have hlt2 := bitsOf_ltB hz
  have h128 := pow_128 hm
  have HBT := Lib.hid (show ∀ k : Nat, k < m → ((2 ^ m - 1 - bitsOf zs).testBit k = true ↔ ¬ (k : Int) ∈ zs) from fun k hk => by
    rw [off_bit hlt2, bits_mem (fun z h => (hz z h).1) k]; exact ⟨fun h => h.2, fun h => ⟨hk, h⟩⟩)
  have HLT := Lib.hid (listTo_fact m (by omega) (2 ^ m - 1 - bitsOf zs) (by omega) (by omega))
  have HR := Lib.hid hr
  clear hr hz hlt2 h128
  generalize 2 ^ m - 1 - bitsOf zs = y at *
  go_enter Tryd.func21, Tryd.ntmps21
  go_wp2_with fail
  have hown : OwnI (w.alloc (.cells #[] 2)) w.heap.size (.slice (some ⟨w.heap.size, 0, none⟩) 0 0) [] := World.ownsRow_made w #[] 0 (Nat.le_refl _) (by unfold maxLen; omega) rfl
  have hb1 := (Below.refl w.heap.size w).alloc (Nat.le_refl _) (.cells #[] 2)
  generalize (Value.slice (some ⟨w.heap.size, 0, none⟩) 0 0) = v0 at *
  go_loopw [5, 6] (fun v i wr => ∃ k : Nat, k ≤ m ∧ i = .int .i64 k ∧ OwnI wr w.heap.size v (listTo y k) ∧ Below w.heap.size w wr)
    (fun _ i _ => m - (intOf i).toNat)
  case atStart => exact ⟨0, by omega, rfl, hown, hb1⟩
  case round =>
    obtain ⟨k, hk, rfl, ho, hb⟩ := hrel
    have HO := Lib.hid ho
    have HB := Lib.hid hb
    have hszr := hb.size
    have hlk := listTo_len y k
    clear ho hb hown hb1
    by_cases hlt : k < m
    · have hi0 : (k : Int) < (m : Int) := by omega
      have hbt := HBT.out k hlt
      by_cases hin : (k : Int) ∈ zs
      · have HT := Lib.hid (tell_true hin)
        have HBF := Lib.hid (show y.testBit k = false by
          cases h : y.testBit k
          · rfl
          · exact absurd hin (hbt.1 h))
        clear hin hbt
        go_wp2_with fail
        refine (a2Has_any a zs c k wr (HR.out.step HB.out) (by omega)).mono ?_
        rintro e w' ⟨rfl, rfl⟩
        rw [HT.out]
        go_wp2_with fail
        go_roundw
        case rel =>
          refine ⟨k + 1, by omega, by go_num, ?_, HB.out⟩
          rw [listTo_miss HBF.out]; exact HO.out
        case measure => simp [intOf]; omega
      · have HT := Lib.hid (tell_false hin)
        have HBF := Lib.hid (hbt.2 hin)
        clear hin hbt
        go_wp2_with fail
        refine (a2Has_any a zs c k wr (HR.out.step HB.out) (by omega)).mono ?_
        rintro e w' ⟨rfl, rfl⟩
        rw [HT.out]
        go_wp2_with (at_builtin; refine wpList_append_own _ rfl _ _ 28 rfl w.heap.size 2 i0 (.int .i64 0) 1 8 Tryd.underlying28 hi hz0 hz1 hz2 rfl (by decide) _ _ _ rfl (World.ownsRow.alloc HO.out _) ⟨wr.heap.size, 0, none⟩ 1 1 [.int .i64 k] rfl rfl (cell_one_new _ _ _) (by simp [Value.oneCell']) (by unfold maxLen; omega) (by omega) (by simp; omega) ?_; intro v' w1 hown1 hgrow1 _)
        go_wp2
        go_roundw
        case rel =>
          refine ⟨k + 1, by omega, by go_num, ?_, ?_⟩
          · unfold OwnI; rw [listTo_hit HBF.out, vals_snoc, List.length_append]; exact hown1
          · exact (HB.out.alloc hszr _).grown hgrow1 (by simp; omega) (fun q hq => (World.ownsRow.lt HO.out q hq).1)
        case measure => simp [intOf]; omega
    · have hi0 : ¬ (k : Int) < (m : Int) := by omega
      have HKM := Lib.hid (show k = m by omega)
      go_wp2_with fail
      go_ret
      refine ⟨⟨_, rfl, ?_⟩, HB.out⟩
      have := HO.out
      rw [HKM.out, HLT.out] at this
      exact this
end Go.Proofs.YteifllengcacbaaDoor

namespace Go.Proofs.YteifllengcacbaaDoor
open Go.RowKit Go.Deep Go.Joins
set_option linter.unusedVariables false

theorem fam_small {m : Nat} {zss : List (List Int)} (h7 : m ≤ 7) (hf : FamOk (m : Int) zss) : Small2 zss := by
  have h : Small2 (famOf m (tblAt zss zss.length)) := famOf_small h7 (leastB m (tblAt zss zss.length))
  rw [← fam_of_tbl h7 hf] at h
  exact h
theorem grpLen7 {m : Nat} {zs : List Int} (h7 : m ≤ 7) (hg : IsGrp (m : Int) zs) : zs.length ≤ 7 := by
  rw [← listOf_bitsOf hg (by omega)]
  exact listTo_len _ 7
/-- What gives a valid family of m holders that opens what p says. -/
structure GF (w' : World) (m : Nat) (p : Nat → Bool) (e : Ending) : Prop where
  val : ∃ a z c, e = .returned (.tuple #[.agg #[.int .i64 (m : Nat), .slice a z.length c], .int .i64 0]) ∧ FamOk (m : Int) z ∧ (∀ x, x < 2 ^ m → tblAt z z.length x = p x) ∧ Rows2 w' a z
theorem GF.of {W w' : World} {m : Nat} {p : Nat → Bool} {e : Ending} (h1 : 1 ≤ m) (h7 : m ≤ 7) (hp : Mono m p) (h : GivesFO W ⟨(m : Nat), famOf m p, 0⟩ e w') : GF w' m p e := by
  obtain ⟨v, us, rfl, hrow, hrows⟩ := h.val
  obtain ⟨a, c, hv, hr⟩ := Own.rows2 (zss := famOf m p) ⟨hrow, hrows⟩
  subst hv
  exact ⟨a, famOf m p, c, rfl, famOk_of h1 h7 hp, fun x hx => tbl_of h7 hp hx, hr⟩
theorem mayG {m : Nat} (a : Option Addr) (zss : List (List Int)) (c : Nat) (b : Option Addr) (zs : List Int) (d : Nat) (w : World) (h7 : m ≤ 7) (hf : FamOk (m : Int) zss) (hg : IsGrp (m : Int) zs) (hr : Rows2 w a zss) (hi : Ints w b zs) :
    Calls Tryd.prog 14 #[.agg #[.int .i64 (m : Nat), .slice a zss.length c], .slice b zs.length d] w fun e w' => e = .returned (.tuple #[.bool (tblAt zss zss.length (bitsOf zs)), .int .i64 0]) ∧ Below w.heap.size w w' := by
  have h := implMay_any (m : Int) a zss c b zs d w hr (fam_small h7 hf) hi (by have := grpLen7 h7 hg; omega)
  rw [(may_in hf hg).1, (may_in hf hg).2] at h
  exact h
/-- The same for a group by its number. -/
theorem mayX {m x : Nat} (a : Option Addr) (zss : List (List Int)) (c : Nat) (b : Option Addr) (d : Nat) (w : World) (h7 : m ≤ 7) (hx : x < 2 ^ m) (hf : FamOk (m : Int) zss) (hr : Rows2 w a zss) (hi : Ints w b (listOf x)) :
    Calls Tryd.prog 14 #[.agg #[.int .i64 (m : Nat), .slice a zss.length c], .slice b (listOf x).length d] w fun e w' => e = .returned (.tuple #[.bool (tblAt zss zss.length x), .int .i64 0]) ∧ Below w.heap.size w w' := by
  have h := mayG a zss c b (listOf x) d w h7 hf (grp_list h7 hx) hr hi
  rw [bits_list x (by have := pow_128 h7; omega)] at h
  exact h
theorem othersX {m x : Nat} (a : Option Addr) (c : Nat) (w : World) (h7 : m ≤ 7) (hx : x < 2 ^ m) (hr : Ints w a (listOf x)) :
    Calls Tryd.prog 21 #[.slice a (listOf x).length c, .int .i64 (m : Nat)] w (GivesInts w (listOf (2 ^ m - 1 - x))) := by
  have h := a2Others_any a (listOf x) c m w hr h7 (by have := listTo_len x 7; unfold listOf; omega) (fun z hz => grp_mem (grp_list h7 hx) z hz)
  rw [bits_list x (by have := pow_128 h7; omega)] at h
  exact h
theorem sameG {m : Nat} (a b : Option Addr) (xs ys : List (List Int)) (ca cb : Nat) (w : World) (h7 : m ≤ 7) (hx : FamOk (m : Int) xs) (hy : FamOk (m : Int) ys) (ha : Rows2 w a xs) (hb : Rows2 w b ys) (he : xs = ys) :
    Calls Tryd.prog 24 #[.agg #[.int .i64 (m : Nat), .slice a xs.length ca], .agg #[.int .i64 (m : Nat), .slice b ys.length cb]] w fun e w' => e = .returned (.bool true) ∧ Below w.heap.size w w' := by
  have h := specSame_any (m : Int) (m : Int) a b xs ys ca cb w ha hb (fam_small h7 hx).lens (fam_small h7 hy).lens
  rw [tell_true (p := (m : Int) = (m : Int) ∧ xs = ys) ⟨rfl, he⟩] at h
  exact h
theorem tell_in {m x : Nat} (h7 : m ≤ 7) (hx : x < 2 ^ m) (j : Nat) : tell ((j : Int) ∈ listOf x) = x.testBit j := by
  have h := bits_has (grp_list h7 hx) j
  rw [bits_list x (by have := pow_128 h7; omega)] at h
  cases hb : x.testBit j with
  | true => exact tell_true (h.1 hb)
  | false => exact tell_false (fun k => by rw [h.2 k] at hb; cases hb)
end Go.Proofs.YteifllengcacbaaDoor

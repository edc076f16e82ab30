/- Contracts on valid families: GreatestBlocked, OpeningGroups. -/
import Derived.Test.YteifllengcacbaaDoorFgZ
import Derived.Test.YteifllengcacbaaDoorGb
import Derived.Test.YteifllengcacbaaDoorOg
namespace Go.Proofs.YteifllengcacbaaDoor
open Go.RowKit Go.Deep Go.Joins
set_option linter.unusedVariables false

/-- What gives groups of m holders: those that q says. -/
structure GR (w' : World) (m : Nat) (q : Nat → Bool) (e : Ending) : Prop where
  val : ∃ a z c, e = .returned (.tuple #[.slice a z.length c, .int .i64 0]) ∧ (∀ zs, zs ∈ z ↔ ∃ x, x < 2 ^ m ∧ q x = true ∧ zs = listOf x) ∧ z.length ≤ 128 ∧ Rows2 w' a z
theorem mem_pick {m : Nat} (h7 : m ≤ 7) {q : Nat → Bool} {zs : List Int} : zs ∈ pickOf q (lexAll m) ↔ ∃ x, x < 2 ^ m ∧ q x = true ∧ zs = listOf x := by
  unfold pickOf
  rw [List.mem_map]
  constructor
  · rintro ⟨g, hg, rfl⟩
    rw [List.mem_filter] at hg
    exact ⟨g.val, (mem_lex h7 g).1 hg.1, hg.2, rfl⟩
  · rintro ⟨x, hx, hl, rfl⟩
    have h128 := pow_128 h7
    exact ⟨⟨x, by omega⟩, List.mem_filter.2 ⟨(mem_lex h7 _).2 hx, hl⟩, rfl⟩
theorem lex_all_len : ∀ m : Fin 8, (lexAll m.val).length ≤ 128 := by decide +kernel
theorem pick_len128 {m : Nat} (h7 : m ≤ 7) (q : Nat → Bool) : (pickOf q (lexAll m)).length ≤ 128 := by
  have h := lex_all_len ⟨m, by omega⟩
  exact Nat.le_trans (pickOf_len q _) h
theorem GR.of {W w' : World} {m : Nat} {q : Nat → Bool} {e : Ending} (h7 : m ≤ 7) (h : GivesRY W (pickOf q (lexAll m)) 0 e w') : GR w' m q e := by
  obtain ⟨v, us, rfl, ho⟩ := h.val
  obtain ⟨a, c, hv, hr⟩ := ho.rows2
  subst hv
  exact ⟨a, _, c, rfl, fun zs => mem_pick h7, pick_len128 h7 q, hr⟩
theorem okCode_yes {h : Int} {zss : List (List Int)} (k : FamOk h zss) : okCode h zss = 0 := by unfold okCode; rw [if_pos (tell_true k)]
theorem blockedG {m : Nat} (a : Option Addr) (zss : List (List Int)) (c : Nat) (w : World) (h7 : m ≤ 7) (hf : FamOk (m : Int) zss) (hr : Rows2 w a zss) :
    Calls Tryd.prog 15 #[.agg #[.int .i64 (m : Nat), .slice a zss.length c]] w fun e w' => GR w' m (mostB m (tblAt zss zss.length)) e ∧ Below w.heap.size w w' := by
  have h := implGb_any (m : Int) a zss c w hr (fam_small h7 hf)
  rw [okCode_yes hf, show gbOf (m : Int) zss = pickOf (mostB m (tblAt zss zss.length)) (lexAll m) by unfold gbOf; rw [if_pos (tell_true hf), Int.toNat_natCast]] at h
  exact h.mono fun e w' g => ⟨GR.of h7 g, g.below⟩
theorem openingG {m : Nat} (a : Option Addr) (zss : List (List Int)) (c : Nat) (w : World) (h7 : m ≤ 7) (hf : FamOk (m : Int) zss) (hr : Rows2 w a zss) :
    Calls Tryd.prog 16 #[.agg #[.int .i64 (m : Nat), .slice a zss.length c]] w fun e w' => GR w' m (tblAt zss zss.length) e ∧ Below w.heap.size w w' := by
  have h := implOg_any (m : Int) a zss c w hr (fam_small h7 hf)
  rw [okCode_yes hf, show ogOf (m : Int) zss = pickOf (tblAt zss zss.length) (lexAll m) by unfold ogOf; rw [if_pos (tell_true hf), Int.toNat_natCast]] at h
  exact h.mono fun e w' g => ⟨GR.of h7 g, g.below⟩
theorem most_iff {m : Nat} {q : Nat → Bool} {x : Nat} : mostB m q x = true ↔ q x = false ∧ ∀ i, i < m → x.testBit i = false → q (addOne x i) = true := by
  unfold mostB
  rw [Bool.and_eq_true, List.all_eq_true, Bool.not_eq_true']
  constructor
  · rintro ⟨h1, h2⟩
    refine ⟨h2, fun i hi hb => ?_⟩
    have := h1 i (List.mem_range.2 hi)
    rw [hb] at this
    simpa using this
  · rintro ⟨h1, h2⟩
    refine ⟨fun i hi => ?_, h1⟩
    cases hb : x.testBit i with
    | true => rfl
    | false => simpa using h2 i (List.mem_range.1 hi) hb
/-- Above what does not open there is a greatest blocked group. -/
theorem most_above {m : Nat} {q : Nat → Bool} (d : Nat) : ∀ x, x < 2 ^ m → 2 ^ m - x ≤ d → q x = false → ∃ y, y < 2 ^ m ∧ mostB m q y = true ∧ Inb x y := by
  induction d with
  | zero => intro x hx hd _; omega
  | succ d ih =>
    intro x hx hd hq
    by_cases hm : mostB m q x = true
    · exact ⟨x, hx, hm, Inb.refl x⟩
    · obtain ⟨i, hi, hb, ha⟩ : ∃ i, i < m ∧ x.testBit i = false ∧ q (addOne x i) = false := by
        refine Classical.byContradiction fun hn => hm (most_iff.2 ⟨hq, fun i hi hb => ?_⟩)
        cases ha : q (addOne x i) with
        | true => rfl
        | false => exact absurd ⟨i, hi, hb, ha⟩ hn
      have h1 := addOne_lt hx hi
      have hsub : Inb x (addOne x i) := fun j hj => by unfold addOne; rw [Nat.testBit_or, hj]; rfl
      have hne : addOne x i ≠ x := fun e => by
        have : (addOne x i).testBit i = true := by unfold addOne; rw [Nat.testBit_or, Nat.testBit_two_pow_self]; simp
        rw [e, hb] at this; cases this
      have hge : x ≤ addOne x i := by unfold addOne; exact Nat.left_le_or
      obtain ⟨y, h3, h4, h5⟩ := ih (addOne x i) h1 (by omega) ha
      exact ⟨y, h3, h4, hsub.trans h5⟩
end Go.Proofs.YteifllengcacbaaDoor

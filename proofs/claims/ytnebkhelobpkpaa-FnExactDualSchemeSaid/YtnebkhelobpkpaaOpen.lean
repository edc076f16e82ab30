/- Arguments as the row reads them, opened as these walks want them. -/
import Derived.Test.YtnebkhelobpkpaaMem
import Derived.Lib.SmallJoins
namespace Go.Proofs.Ytnebkhelobpkpaa
open Go.ChangeShapes Go.WideShapes Go.ChangeAt Go.RowKit Go.Deep Go.Joins

def Lens (zss : List (List Int)) : Prop := zss.length ≤ 9223372036854775807 ∧ ∀ r, r < zss.length → (nthL zss r).length ≤ 9223372036854775807

section
variable {H : Type} {enc : TypeId × Value → H} {w : World} {base : Nat} {held : Bool}

set_option maxRecDepth 100000 in
theorem nth_take (zs : List Int) {n i : Nat} (h : i < n) (hn : n ≤ zs.length) : nth (zs.take n) i = zs.getD i 0 := by
  rw [nth_lt (by simp; omega)]
  simp [List.getD, show i < zs.length by omega]

set_option maxRecDepth 100000 in
theorem ints_of_cells {a : Option Addr} {L C : Nat} {Z : List Int} (hL : L ≤ C) (hZ : Z.length = C) (hn : a = none → C = 0) (hc : ∀ a', a = some a' → ∀ c, c < C → w.cell? (a'.add c) = some (.int .i64 (Z.getD c 0))) : Ints w a (Z.take L) := by
  by_cases h0 : L = 0
  · subst h0; exact .inl (by simp)
  · cases a with
    | none => have := hn rfl; omega
    | some a' =>
      obtain ⟨b, o, sp⟩ := a'
      have hsp : sp = none := by simpa [Addr.add] using World.cell?_spot (hc _ rfl 0 (by omega))
      subst hsp
      refine .inr ⟨b, o, rfl, fun i hi => ?_⟩
      have hi' : i < L := by simpa [hZ, hL] using hi
      rw [nth_take Z hi' (by omega), ← add_plain]
      exact hc _ rfl i (by omega)

set_option maxRecDepth 100000 in
/-- A SLICE OF SLICES OF NUMBERS, OPENED. -/
theorem open_rows2 {fuel : Nat} {a0 : Option Addr} {n c : Nat} {x : DataW H × List MemPlace} (h : DataW.trod enc Try.prog w base (fun _ => true) held fuel 36 [.slice a0 n c] = some x) :
    ∃ zss, n = zss.length ∧ Rows2 w a0 zss ∧ Lens zss := by
  rcases open_int_rows Try.underlying36 Try.underlying35 Try.underlying2 (by kernel_rfl) (by kernel_rfl) h with ⟨hcs, _⟩ | ⟨a, len, cap, A, L, C, Z, hcs, _, hl, hm, _, hrows⟩
  · simp at hcs
    obtain ⟨rfl, rfl, rfl⟩ := hcs
    exact ⟨[], rfl, .inl rfl, by simp, fun r hr => absurd hr (Nat.not_lt_zero _)⟩
  · simp at hcs
    obtain ⟨rfl, rfl, rfl⟩ := hcs
    have hm' : c ≤ 9223372036854775807 := hm
    have hlen : ∀ r, r < n → ((Z r).take (L r)).length = L r := fun r hr => by
      obtain ⟨_, h1, _, h2, _⟩ := hrows r (by omega)
      simp; omega
    have hnth : ∀ r, r < n → nthL ((List.range n).map fun r => (Z r).take (L r)) r = (Z r).take (L r) := fun r hr => by
      rw [nthL_lt (by simpa using hr)]; simp
    refine ⟨(List.range n).map fun r => (Z r).take (L r), by simp, ?_, by simp; omega, fun r hr => ?_⟩
    · by_cases h0 : n = 0
      · subst h0; exact .inl rfl
      · obtain ⟨b, o, sp⟩ := a
        have hsp : sp = none := by simpa [Addr.add] using World.cell?_spot (hrows 0 (by omega)).1
        subst hsp
        refine .inr ⟨b, o, rfl, fun i hi => ?_⟩
        have hi' : i < n := by simpa using hi
        obtain ⟨e1, h1, h2, h3, _, h5, h6⟩ := hrows i (by omega)
        refine ⟨A i, C i, ?_, ?_⟩
        · rw [hnth i hi', hlen i hi', ← add_plain]; exact e1
        · rw [hnth i hi']
          exact ints_of_cells h1 h3 h5 (fun a' ha' c hc => (h6 a' ha').2 c hc)
    · have hr' : r < n := by simpa using hr
      rw [hnth r hr', hlen r hr']
      obtain ⟨_, h1, h2, _⟩ := hrows r (by omega)
      have : C r ≤ 9223372036854775807 := h2
      omega

set_option maxRecDepth 100000 in
/-- A SLICE OF NUMBERS, OPENED. -/
theorem open_ints1 {fuel : Nat} {a0 : Option Addr} {n c : Nat} {x : DataW H × List MemPlace} (h : DataW.trod enc Try.prog w base (fun _ => true) held fuel 35 [.slice a0 n c] = some x) :
    ∃ zs, n = zs.length ∧ Ints w a0 zs ∧ zs.length ≤ 9223372036854775807 := by
  rcases open_ints Try.underlying35 Try.underlying2 (by kernel_rfl) h with ⟨hcs, _⟩ | ⟨a', len', cap', zs, hcs, _, hl', hm', hz, _, hcell, _⟩
  · simp at hcs
    obtain ⟨rfl, rfl, rfl⟩ := hcs
    exact ⟨[], rfl, .inl rfl, by simp⟩
  · simp at hcs
    obtain ⟨rfl, rfl, rfl⟩ := hcs
    simp only [if_true] at hz
    have hm : c ≤ 9223372036854775807 := hm'
    refine ⟨zs.take n, by simp; omega, ints_of_cells hl' hz (fun e => by cases e) (fun a'' e c hc => by cases e; exact hcell c (by omega)), by simp; omega⟩

end
end Go.Proofs.Ytnebkhelobpkpaa

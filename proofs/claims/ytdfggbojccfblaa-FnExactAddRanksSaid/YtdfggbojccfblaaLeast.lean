/- The contracts of the program's check of families: hasParts, leastSets, ValidFamily; and the model's. -/
import Derived.Test.YtdfggbojccfblaaSet
namespace Go.Proofs.Ytdfggbojccfblaa
open Go.RowKit Go.Deep
set_option linter.unusedVariables false

def nthN (l : List Nat) (i : Nat) : Nat := l.getD i 0
theorem nthN_lt {l : List Nat} {i : Nat} (h : i < l.length) : nthN l i = l[i] := by simp [nthN, List.getD, h]
def setVals (l : List Nat) : List Value := l.map fun (x : Nat) => Value.int .u64 ((x : Nat) : Int)
def AllSmall (l : List Nat) : Prop := ∀ i, i < l.length → nthN l i < 128
def PartIn (l : List Nat) : Prop := ∃ i j, i < l.length ∧ j < l.length ∧ i ≠ j ∧ nthN l i &&& nthN l j = nthN l i

/-- A slice of sets: its cells. -/
def Sets (w : World) (a : Option Addr) (l : List Nat) : Prop := l = [] ∨ ∃ b o, a = some ⟨b, o, none⟩ ∧ ∀ i, i < l.length → w.cell? ⟨b, o + i, none⟩ = some (.int .u64 ((nthN l i : Nat) : Int))

theorem Sets.of_owns {w : World} {base : Nat} {t : TypeId} {v : Value} {l : List Nat} (h : w.ownsRow base t 1 v l.length (setVals l)) : ∃ a c, v = .slice a l.length c ∧ Sets w a l ∧ l.length ≤ 9223372036854775807 := by
  rcases h.2 with ⟨hv, hn⟩ | ⟨g, cap, cur, hv, hb, hg, hnc, hcm, hcs, htake⟩
  · exact ⟨none, 0, by rw [hv, hn], .inl (List.eq_nil_of_length_eq_zero hn), by omega⟩
  · subst hv
    refine ⟨_, _, rfl, .inr ⟨g, 0, rfl, fun i hi => ?_⟩, by unfold maxLen at hcm; omega⟩
    rw [Nat.zero_add, h.cellAt i (by omega)]
    simp [setVals, hi, nthN_lt hi]

theorem Try.infoSet : (Try.prog.info? 56).map (fun i => (i.zero, i.size, i.bytes)) = some (some (.int .u64 0), 1, 8) := by kernel_rfl

def bitsUpTo (zss : List (List Int)) (k : Nat) : List Nat := (List.range k).map fun i => bitsOf (nthL zss i)
theorem bitsUpTo_len (zss : List (List Int)) (k : Nat) : (bitsUpTo zss k).length = k := by simp [bitsUpTo]
theorem bitsUpTo_nth (zss : List (List Int)) {k i : Nat} (h : i < k) : nthN (bitsUpTo zss k) i = bitsOf (nthL zss i) := by
  rw [nthN_lt (by rw [bitsUpTo_len]; exact h)]; simp [bitsUpTo]
theorem bitsUpTo_succ (zss : List (List Int)) (k : Nat) : setVals (bitsUpTo zss (k + 1)) = setVals (bitsUpTo zss k) ++ [.int .u64 ((bitsOf (nthL zss k) : Nat) : Int)] := by
  simp [bitsUpTo, setVals, List.range_succ]

/-- What 'leastSets' gives: the groups' bits, in memory of its own, if all is well. -/
structure LeastPost (W : World) (h : Int) (zss : List (List Int)) (e : Ending) (w' : World) : Prop where
  all : ∃ v, e = .returned (.tuple #[v, .bool (tell (FamOk h zss))]) ∧ (FamOk h zss → w'.ownsRow W.heap.size 56 1 v zss.length (setVals (bitsUpTo zss zss.length)))
  below : Below W.heap.size W w'

theorem LeastPost.no {W w' : World} {h : Int} {zss : List (List Int)} (hn : ¬ FamOk h zss) (hb : Below W.heap.size W w') : LeastPost W h zss (.returned (.tuple #[.slice none 0 0, .bool false])) w' :=
  ⟨⟨_, by rw [tell_false hn], fun hf => absurd hf hn⟩, hb⟩

theorem partIn_iff {h : Int} {zss : List (List Int)} (hh : 1 ≤ h ∧ h ≤ 7) (hg : AllGrp h zss) : ¬ PartIn (bitsUpTo zss zss.length) ↔ FamOk h zss := by
  constructor
  · intro hp
    refine ⟨hh, hg, fun i hi j hj hne hpart => hp ⟨i, j, by rw [bitsUpTo_len]; exact hi, by rw [bitsUpTo_len]; exact hj, hne, ?_⟩⟩
    rw [bitsUpTo_nth _ hi, bitsUpTo_nth _ hj]; exact hpart
  · rintro ⟨_, _, hp⟩ ⟨i, j, hi, hj, hne, hpart⟩
    rw [bitsUpTo_len] at hi hj
    rw [bitsUpTo_nth _ hi, bitsUpTo_nth _ hj] at hpart
    exact hp i hi j hj hne hpart

theorem ret_pair_bool {v : Value} {a b : Bool} (h : a = b) : Ending.returned (.tuple #[v, .bool a]) = .returned (.tuple #[v, .bool b]) := by rw [h]
theorem allSmall_bits {h : Int} {zss : List (List Int)} (hg : AllGrp h zss) (hh : h ≤ 7) : AllSmall (bitsUpTo zss zss.length) := fun i hi => by
  rw [bitsUpTo_len] at hi
  rw [bitsUpTo_nth _ hi]
  exact bitsOf_lt (hg i hi).1 hh
theorem ownsRow_mono {w : World} {base base' : Nat} {t : TypeId} {size : Nat} {v : Value} {n : Nat} {xs : List Value} (h : w.ownsRow base t size v n xs) (hb : base' ≤ base) : w.ownsRow base' t size v n xs := by
  refine ⟨h.1, ?_⟩
  rcases h.2 with h2 | ⟨g, cap, cur, hv, hg, r⟩
  · exact .inl h2
  · exact .inr ⟨g, cap, cur, hv, Nat.le_trans hb hg, r⟩

end Go.Proofs.Ytdfggbojccfblaa

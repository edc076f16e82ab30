/- Memory as the walks of these laws see it: slices of numbers, slices of such slices; rows that a call has made. Plain lemmas. -/
import Derived.Test.YtnebkhelobpkpaaRows
import Derived.WalkKit
import Derived.WalkSpells
import Derived.WalkLawsBesides
import Derived.ProofKit
import Derived.OpenShut
import Derived.ChangeOld
import Derived.ShutString
import Derived.Deep.Matrix
import Derived.Deep.OwnRows
import Derived.Lib.Hide
namespace Go.Proofs.Ytnebkhelobpkpaa
open Go.RowKit Go.Deep

/-- Element i of a list of numbers (0 behind its end). Not reducible: the walk leaves it as it stands. -/
def nth (l : List Int) (i : Nat) : Int := l.getD i 0
/-- Element i of a list of lists. -/
def nthL (l : List (List Int)) (i : Nat) : List Int := l.getD i []

theorem nth_lt {l : List Int} {i : Nat} (h : i < l.length) : nth l i = l[i] := by simp [nth, List.getD, h]
theorem nthL_lt {l : List (List Int)} {i : Nat} (h : i < l.length) : nthL l i = l[i] := by simp [nthL, List.getD, h]

/-- A slice of numbers: its cells, up to its length. -/
def Ints (w : World) (a : Option Addr) (zs : List Int) : Prop :=
  zs = [] ∨ ∃ b o, a = some ⟨b, o, none⟩ ∧ ∀ i, i < zs.length → w.cell? ⟨b, o + i, none⟩ = some (.int .i64 (nth zs i))

theorem Ints.below {B : Nat} {w w' : World} {a : Option Addr} {zs : List Int} (h : Ints w a zs) (hb : Below B w w') (hB : w.heap.size ≤ B) : Ints w' a zs := by
  rcases h with h | ⟨b, o, ha, hc⟩
  · exact .inl h
  · refine .inr ⟨b, o, ha, fun i hi => ?_⟩
    have h1 := hc i hi
    have := World.block_lt_of_cell? _ _ h1
    rw [hb.cell (p := ⟨b, o + i, none⟩) (by show b < B; exact Nat.lt_of_lt_of_le this hB)]
    exact h1

theorem Ints.of_row {w : World} {g : Nat} {t : TypeId} {zs : List Int} (h : w.rowIs g t zs.length (fun i => .int .i64 (nth zs i))) : Ints w (some ⟨g, 0, none⟩) zs :=
  .inr ⟨g, 0, rfl, fun i hi => by rw [Nat.zero_add]; exact h.cell hi⟩

/-- A slice of slices of numbers. -/
def Rows2 (w : World) (a : Option Addr) (zss : List (List Int)) : Prop :=
  zss = [] ∨ ∃ b o, a = some ⟨b, o, none⟩ ∧ ∀ i, i < zss.length → ∃ (ai : Option Addr) (ci : Nat), w.cell? ⟨b, o + i, none⟩ = some (.slice ai (nthL zss i).length ci) ∧ Ints w ai (nthL zss i)

theorem Rows2.below {B : Nat} {w w' : World} {a : Option Addr} {zss : List (List Int)} (h : Rows2 w a zss) (hb : Below B w w') (hB : w.heap.size ≤ B) : Rows2 w' a zss := by
  rcases h with h | ⟨b, o, ha, hc⟩
  · exact .inl h
  · refine .inr ⟨b, o, ha, fun i hi => ?_⟩
    obtain ⟨ai, ci, h1, h2⟩ := hc i hi
    have := World.block_lt_of_cell? _ _ h1
    refine ⟨ai, ci, ?_, h2.below hb hB⟩
    rw [hb.cell (p := ⟨b, o + i, none⟩) (by show b < B; exact Nat.lt_of_lt_of_le this hB)]
    exact h1

/-- What a copy of a slice of slices has made: a block of slices at g, and a block for each row behind it. -/
structure Own2 (w : World) (g : Nat) (zss : List (List Int)) : Prop where
  top : w.rowIs g 35 zss.length (fun r => .slice (some ⟨g + 1 + r, 0, none⟩) (nthL zss r).length (nthL zss r).length)
  row : ∀ r, r < zss.length → w.rowIs (g + 1 + r) 2 (nthL zss r).length (fun i => .int .i64 (nth (nthL zss r) i))

theorem Own2.rows {w : World} {g : Nat} {zss : List (List Int)} (h : Own2 w g zss) : Rows2 w (some ⟨g, 0, none⟩) zss :=
  .inr ⟨g, 0, rfl, fun i hi => ⟨_, _, by rw [Nat.zero_add]; exact h.top.cell hi, Ints.of_row (h.row i hi)⟩⟩

theorem rowIs_below {B : Nat} {w w' : World} {g : Nat} {t : TypeId} {n : Nat} {f : Nat → Value} (h : w.rowIs g t n f) (hb : Below B w w') (hg : g < B) : w'.rowIs g t n f := h.of_block (hb.block g hg)

theorem Own2.below {B : Nat} {w w' : World} {g : Nat} {zss : List (List Int)} (h : Own2 w g zss) (hb : Below B w w') (hB : w.heap.size ≤ B) : Own2 w' g zss :=
  ⟨rowIs_below h.top hb (Nat.lt_of_lt_of_le h.top.lt hB), fun r hr => rowIs_below (h.row r hr) hb (Nat.lt_of_lt_of_le (h.row r hr).lt hB)⟩

theorem Own2.setCell {w : World} {g : Nat} {zss : List (List Int)} (h : Own2 w g zss) {p : Addr} (hp : p.block < g) (v : Value) : Own2 (w.setCell p v) g zss :=
  ⟨h.top.setOther (by omega) _, fun r hr => (h.row r hr).setOther (by omega) _⟩

theorem cell_step {w w' : World} {p : Addr} {v : Value} (hb : Below w.heap.size w w') (h : w.cell? p = some v) : w'.cell? p = some v :=
  (hb.cell (World.block_lt_of_cell? _ _ h)).trans h
theorem chain {a b c : World} (h : Below a.heap.size a b) (k : Below b.heap.size b c) : Below a.heap.size a c := h.trans (k.mono h.size)
theorem Ints.step {w w' : World} {a : Option Addr} {zs : List Int} (hb : Below w.heap.size w w') (h : Ints w a zs) : Ints w' a zs := h.below hb (Nat.le_refl _)
theorem Rows2.step {w w' : World} {a : Option Addr} {zss : List (List Int)} (hb : Below w.heap.size w w') (h : Rows2 w a zss) : Rows2 w' a zss := h.below hb (Nat.le_refl _)
theorem drew_step (w : World) : Below w.heap.size w w.drew := (Below.refl _ _).drew

theorem Own2.step {w w' : World} {g : Nat} {zss : List (List Int)} (hb : Below w.heap.size w w') (h : Own2 w g zss) : Own2 w' g zss := h.below hb (Nat.le_refl _)

theorem bcell {W w1 : World} (hb : Below W.heap.size W w1) : (∀ b o, b < W.heap.size → w1.cell? ⟨b, o, none⟩ = W.cell? ⟨b, o, none⟩) ∧ (∀ b o, b < W.heap.size → w1.frozen? ⟨b, o, none⟩ = W.frozen? ⟨b, o, none⟩) :=
  ⟨fun b o h => hb.cell (p := ⟨b, o, none⟩) h, fun b o h => hb.frozen (p := ⟨b, o, none⟩) h⟩

theorem Try.infoInt64 : (Try.prog.info? 2).map (fun i => (i.zero, i.size, i.bytes)) = some (some (.int .i64 0), 1, 8) := by kernel_rfl
theorem Try.infoInt64S : (Try.prog.info? 35).map (fun i => (i.zero, i.size, i.bytes)) = some (some (.slice none 0 0), 1, 24) := by kernel_rfl

end Go.Proofs.Ytnebkhelobpkpaa

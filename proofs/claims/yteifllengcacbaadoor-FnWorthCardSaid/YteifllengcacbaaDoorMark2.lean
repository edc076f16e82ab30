/- The contracts of the laws' marks of copies of families: markInt64SS, markFamily. -/
import Derived.Test.YteifllengcacbaaDoorMark
namespace Go.Proofs.YteifllengcacbaaDoor
open Go.RowKit Go.Deep
set_option linter.unusedVariables false

theorem own_of_row {w : World} {g : Nat} {zs : List Int} (h : w.rowIs g 2 zs.length (fun i => .int .i64 (nth zs i))) (hl : zs.length ≤ maxLen) : OwnI w g (.slice (some ⟨g, 0, none⟩) zs.length zs.length) zs := by
  obtain ⟨c, hg, hn, hc⟩ := h
  refine ⟨by simp [vals], .inr ⟨g, zs.length, c, rfl, Nat.le_refl _, hg, Nat.le_refl _, hl, by omega, ?_⟩⟩
  apply List.ext_getElem?
  intro i
  by_cases hi : i < zs.length
  · rw [List.getElem?_take_of_lt (by omega), ← Array.getElem?_toList] at *
    have := hc i hi
    simp only [Array.getElem?_toList] at *
    rw [this]
    simp [vals, hi, nth_lt hi]
  · simp [vals, hi, hn]

theorem Touch.refl (lo hi : Nat) (w : World) : Touch lo hi w w := ⟨rfl, rfl, rfl, Nat.le_refl _, fun _ _ _ => rfl⟩
theorem Touch.trans {lo hi : Nat} {a b c : World} (h : Touch lo hi a b) (k : Touch lo hi b c) : Touch lo hi a c :=
  ⟨k.os.trans h.os, k.tape.trans h.tape, k.output.trans h.output, Nat.le_trans h.size k.size, fun q hq hne => (k.block q (Nat.lt_of_lt_of_le hq h.size) hne).trans (h.block q hq hne)⟩
theorem Touch.of_grown {lo hi : Nat} {w w' : World} {row : Option Nat} (h : w.grownBy w' row) (hr : ∀ k, row = some k → lo ≤ k ∧ k < hi) : Touch lo hi w w' :=
  ⟨h.os, h.tape, h.output, h.size, fun q hq hne => h.block q hq (fun e => by have := hr q e.symm; omega)⟩
theorem Touch.row {lo hi : Nat} {w w' : World} (h : Touch lo hi w w') {g : Nat} {t : TypeId} {n : Nat} {f : Nat → Value} (k : w.rowIs g t n f) (hg : g < lo ∨ hi ≤ g) : w'.rowIs g t n f := k.of_block (h.block g k.lt hg)
theorem Touch.of_below {w w' : World} (lo hi : Nat) (h : Below w.heap.size w w') : Touch lo hi w w' := ⟨h.os, h.tape, h.output, h.size, fun q hq _ => h.block q hq⟩

structure Marked2 (W : World) (g n : Nat) (e : Ending) (w' : World) : Prop where
  val : GivesInt (fun q => 0 ≤ q) e
  touch : Touch g (g + 1 + n) W w'

end Go.Proofs.YteifllengcacbaaDoor

/- The contracts of the laws' own helpers on families: eqInt64SS, szFamily, toFamily, eqFamily. -/
import Derived.Test.YteifllengcacbaaDoorTo
import Derived.Test.YteifllengcacbaaDoorSz
import Derived.Handy
namespace Go.Proofs.YteifllengcacbaaDoor
open Go.RowKit Go.Deep

theorem quiet_below {w w' : World} (h : Quiet w w') : Below w.heap.size w w' := by
  obtain ⟨n, rfl⟩ := h
  exact below_drewN (Below.refl _ _) n
theorem Ints.quiet {w w' : World} {a : Option Addr} {zs : List Int} (h : Ints w a zs) (q : Quiet w w') : Ints w' a zs := h.below (quiet_below q) (Nat.le_refl _)
theorem Rows2.quiet {w w' : World} {a : Option Addr} {zss : List (List Int)} (h : Rows2 w a zss) (q : Quiet w w') : Rows2 w' a zss := h.below (quiet_below q) (Nat.le_refl _)
theorem Quiet.cell {w w' : World} (h : Quiet w w') (p : Addr) : w'.cell? p = w.cell? p := by
  obtain ⟨n, rfl⟩ := h
  exact World.cell?_drewN _ _ _
theorem Quiet.trans {a b c : World} (h : Quiet a b) (k : Quiet b c) : Quiet a c := by
  obtain ⟨n, rfl⟩ := h
  obtain ⟨m, rfl⟩ := k
  exact ⟨n + m, by rw [World.drewN_drewN]⟩

end Go.Proofs.YteifllengcacbaaDoor

/- l03Copy and l03Told of the model. -/
import Derived.Test.YtpifgapogbbcnaaGd
import Derived.Test.YtpifgapogbbcnaaVm
import Derived.Test.YtpifgapogbbcnaaOw
import Derived.Deep.AppendLies
import Derived.Deep.RegionLaw
import Derived.Deep.DrawnRows
import Derived.BigQuiet
namespace Go.Proofs.Ytpifgapogbbcnaa
open Go.RowKit Go.Deep
set_option linter.unusedVariables false
attribute [local go_sem ↓] Go.wp_at_zero Go.wp_at_succ

theorem Boxes.set3d {W : World} {B : Nat} {t : TypeId} {u0 u1 u2 : Value} (h : Boxes W B t #[u0, u1, u2]) (v : Value) : Boxes (W.setCell ⟨B, 2, none⟩ v) B t #[u0, u1, v] := by
  unfold Boxes at h ⊢
  simp [World.setCell, Array.getElem?_modify, h]
theorem Own.mono3 {W : World} {base base' : Nat} {v : Value} {us : List Value} {zss : List (List Int)} (h : Own W base v us zss) (hb : base' ≤ base) : Own W base' v us zss := ⟨ownsRow_mono h.row hb, h.rows.mono hb⟩
theorem Own.nil3 (W : World) (base : Nat) : Own W base (.slice none 0 0) [] [] := ⟨World.ownsRow_nil _ _ _ _, RowsOwn.nil _ _⟩
theorem Own.setCell3 {W : World} {base : Nat} {v : Value} {us : List Value} {zss : List (List Int)} (h : Own W base v us zss) {p : Addr} (hp : p.block < base) (u : Value) : Own (W.setCell p u) base v us zss := ⟨row_seta h.row hp u, h.rows.map fun _ _ k => row_seta k hp u⟩

end Go.Proofs.Ytpifgapogbbcnaa

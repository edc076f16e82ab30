/- All cells of a box of three, written. -/
import Derived.Test.YtdfggbojccfblaaRk
namespace Go.Proofs.Ytdfggbojccfblaa
open Go.RowKit Go.Deep
theorem Boxes.all3 {W : World} {B : Nat} {t : TypeId} {u0 u1 u2 : Value} (h : Boxes W B t #[u0, u1, u2]) (x0 x1 x2 : Value) : Boxes (((W.setCell ⟨B, 0, none⟩ x0).setCell ⟨B, 1, none⟩ x1).setCell ⟨B, 2, none⟩ x2) B t #[x0, x1, x2] := by
  unfold Boxes at h ⊢
  simp [World.setCell, Array.getElem?_modify, h]
end Go.Proofs.Ytdfggbojccfblaa

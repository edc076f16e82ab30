/- The contracts of the checks of groups: l00In, l00Rises, l01Group, l01Before, l01Bits, l01Within. -/
import Derived.Test.YteifllengcacbaaDoorGrp
import Derived.Test.YteifllengcacbaaDoorFam
namespace Go.Proofs.YteifllengcacbaaDoor
open Go.RowKit Go.Deep

theorem swapped {P : Program} {f : FuncId} {args : Array Value} {w : World} {v : Value} (h : Calls P f args w fun e w' => e = .returned v ∧ w = w') : Calls P f args w fun e w' => e = .returned v ∧ w' = w :=
  h.mono fun _ _ ⟨h1, h2⟩ => ⟨h1, h2.symm⟩

end Go.Proofs.YteifllengcacbaaDoor

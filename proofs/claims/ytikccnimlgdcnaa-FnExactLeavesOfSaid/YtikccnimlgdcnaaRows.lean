/-
  NARROWER THAN 'FOR EVERY INPUT', by the rows' own cells (each row's printed sentence says how): FnExactValidGate: loops · FnExactGateOpens: loops · FnExactLeavesOf: loops.
  DERIVED. THE GIVEN ROWS OF THIS SEAT. 3 by the template 'for every input the law returns true; each argument reads behind the call as it read before'; 0 by the template 'total and deterministic' (their statements: YtikccnimlgdcnaaTotals.lean).
  GIVEN WITH THE SEED: the statements are not yours to turn. If you find one false, say at which input.
  Laid BY PROGRAM, IN A SANDBOX (cutbox-rows.mjs): the forced cells as the released guide's own fill.sh prints them over the translation 6179c4b1b6b721ff… (all of the seat's roots in one cut). By AI agents, Wed Nov 11 2026. No macro, syntax, notation, axiom, sorry.
-/
import Derived.Test.YtikccnimlgdcnaaChecked
import GoSem.Claim
import GoSem.ClaimJoined
import GoSem.ClaimMapViews
import Derived.JoinedTies
import Derived.KernelRfl
namespace Go.Proofs.Ytikccnimlgdcnaa
/- THE CELL 'sum', in the pinned program and in every row, IS THE sha256 OF THE DUMP (.gsa) THAT YtikccnimlgdcnaaProg.lean LOADS. Nothing in Lean hashes anything: it is a label: what it is worth is what the hold of that sum in a sandbox is worth. -/
noncomputable def Try.pinned : Pinned := { name := "ytikccnimlgdcnaa", sum := "6179c4b1b6b721ff8bda5c6fd1fb9574d0d0d98b60aef58d1d11f2043ff04f3f", checked := Try.checked }
namespace Rows
def none {H : Type} : Left H := { results := [], args := [] }

/-- 'laws.FnExactValidGate': WHATEVER THE INPUT: true; the input reads as it did. -/
def fnExactValidGateSpec : ChangeSpec := { name := "fnExactValidGate", fn := fun _ => fun
  | [d1, d2] => { results := [.lit (.bool true)], args := [d1, d2] }
  | _ => none }
def fnExactValidGateRow : OpenClaim := { program := "ytikccnimlgdcnaa", sum := "6179c4b1b6b721ff8bda5c6fd1fb9574d0d0d98b60aef58d1d11f2043ff04f3f", func := "loop.example/g01117/laws.FnExactValidGate", spec := "fnExactValidGate", recurses := true, loops := true, apart := false }
def FnExactValidGateSaid : Prop := fnExactValidGateRow.holds Try.pinned (OpenSpec.ofChange fnExactValidGateSpec)

/-- ITS FALSE NEIGHBOUR: 'it returns false'. Refute it at one input. -/
def fnExactValidGateWrong : ChangeSpec := { name := "fnExactValidGate", fn := fun _ => fun
  | [d1, d2] => { results := [.lit (.bool false)], args := [d1, d2] }
  | _ => none }
def FnExactValidGateWrongFalsely : Prop := fnExactValidGateRow.holds Try.pinned (OpenSpec.ofChange fnExactValidGateWrong)

/-- 'laws.FnExactGateOpens': WHATEVER THE INPUT: true; the input reads as it did. -/
def fnExactGateOpensSpec : ChangeSpec := { name := "fnExactGateOpens", fn := fun _ => fun
  | [d1, d2, d3] => { results := [.lit (.bool true)], args := [d1, d2, d3] }
  | _ => none }
def fnExactGateOpensRow : OpenClaim := { program := "ytikccnimlgdcnaa", sum := "6179c4b1b6b721ff8bda5c6fd1fb9574d0d0d98b60aef58d1d11f2043ff04f3f", func := "loop.example/g01117/laws.FnExactGateOpens", spec := "fnExactGateOpens", unfollowed := true, recurses := true, loops := true, apart := false }
def FnExactGateOpensSaid : Prop := fnExactGateOpensRow.holds Try.pinned (OpenSpec.ofChange fnExactGateOpensSpec)

/-- ITS FALSE NEIGHBOUR: 'it returns false'. Refute it at one input. -/
def fnExactGateOpensWrong : ChangeSpec := { name := "fnExactGateOpens", fn := fun _ => fun
  | [d1, d2, d3] => { results := [.lit (.bool false)], args := [d1, d2, d3] }
  | _ => none }
def FnExactGateOpensWrongFalsely : Prop := fnExactGateOpensRow.holds Try.pinned (OpenSpec.ofChange fnExactGateOpensWrong)

/-- 'laws.FnExactLeavesOf': WHATEVER THE INPUT: true; the input reads as it did. -/
def fnExactLeavesOfSpec : ChangeSpec := { name := "fnExactLeavesOf", fn := fun _ => fun
  | [d1, d2] => { results := [.lit (.bool true)], args := [d1, d2] }
  | _ => none }
def fnExactLeavesOfRow : OpenClaim := { program := "ytikccnimlgdcnaa", sum := "6179c4b1b6b721ff8bda5c6fd1fb9574d0d0d98b60aef58d1d11f2043ff04f3f", func := "loop.example/g01117/laws.FnExactLeavesOf", spec := "fnExactLeavesOf", recurses := true, loops := true, apart := false }
def FnExactLeavesOfSaid : Prop := fnExactLeavesOfRow.holds Try.pinned (OpenSpec.ofChange fnExactLeavesOfSpec)

/-- ITS FALSE NEIGHBOUR: 'it returns false'. Refute it at one input. -/
def fnExactLeavesOfWrong : ChangeSpec := { name := "fnExactLeavesOf", fn := fun _ => fun
  | [d1, d2] => { results := [.lit (.bool false)], args := [d1, d2] }
  | _ => none }
def FnExactLeavesOfWrongFalsely : Prop := fnExactLeavesOfRow.holds Try.pinned (OpenSpec.ofChange fnExactLeavesOfWrong)

/- THE SECOND FORM. 'bulk': how many values and letters a reading holds, each counted each time it is reached (what is shared counts as often as it is met; a slice's spare places count too). A statement '..UptoSaid' is the law's where the arguments, and the package variables that the reading takes, are together of bulk at most 1048576: NARROWER than '..Said'. Prove '..Said' where nothing that the law and all that it calls make is longer than what came in: it says more and counts as full. Else prove '..UptoSaid'. A law counts once. -/
mutual
def uptoBulk {H : Type} : DataW H → Nat
  | .lit (.string bytes) => bytes.length + 1
  | .lit _ => 1
  | .nil => 1
  | .ptr d => uptoBulk d + 1
  | .slice elems spare => uptoBulkAll elems + uptoBulkAll spare + 1
  | .agg parts => uptoBulkAll parts + 1
  | .iface _ d => uptoBulk d + 1
  | .map entries => uptoBulkEntries entries + 1
  | .held _ => 1
def uptoBulkAll {H : Type} : List (DataW H) → Nat
  | [] => 0
  | d :: r => uptoBulk d + uptoBulkAll r
def uptoBulkEntries {H : Type} : List (Lit × DataW H) → Nat
  | [] => 0
  | x :: r => uptoBulkEntry x + uptoBulkEntries r
def uptoBulkEntry {H : Type} : Lit × DataW H → Nat
  | (.string bytes, d) => bytes.length + uptoBulk d + 1
  | (_, d) => uptoBulk d + 1
 end
def uptoSmall : (H : Type) → List (DataW H) → Bool := fun _ ds => decide (uptoBulkAll ds ≤ 1048576)
def OpenSpec.upto (s : _root_.Go.ChangeSpec) : _root_.Go.OpenSpec := { _root_.Go.OpenSpec.ofChange s with cond := some uptoSmall }

/-- 'laws.FnExactValidGate', WHERE WHAT IT READS IS OF BULK AT MOST 1048576: true; the input reads as it did. -/
def fnExactValidGateUptoRow : OpenClaim := { program := "ytikccnimlgdcnaa", sum := "6179c4b1b6b721ff8bda5c6fd1fb9574d0d0d98b60aef58d1d11f2043ff04f3f", func := "loop.example/g01117/laws.FnExactValidGate", spec := "fnExactValidGate", recurses := true, loops := true, apart := false, narrowed := true }
def FnExactValidGateUptoSaid : Prop := fnExactValidGateUptoRow.holds Try.pinned (OpenSpec.upto fnExactValidGateSpec)

/-- 'laws.FnExactGateOpens', WHERE WHAT IT READS IS OF BULK AT MOST 1048576: true; the input reads as it did. -/
def fnExactGateOpensUptoRow : OpenClaim := { program := "ytikccnimlgdcnaa", sum := "6179c4b1b6b721ff8bda5c6fd1fb9574d0d0d98b60aef58d1d11f2043ff04f3f", func := "loop.example/g01117/laws.FnExactGateOpens", spec := "fnExactGateOpens", unfollowed := true, recurses := true, loops := true, apart := false, narrowed := true }
def FnExactGateOpensUptoSaid : Prop := fnExactGateOpensUptoRow.holds Try.pinned (OpenSpec.upto fnExactGateOpensSpec)

/-- 'laws.FnExactLeavesOf', WHERE WHAT IT READS IS OF BULK AT MOST 1048576: true; the input reads as it did. -/
def fnExactLeavesOfUptoRow : OpenClaim := { program := "ytikccnimlgdcnaa", sum := "6179c4b1b6b721ff8bda5c6fd1fb9574d0d0d98b60aef58d1d11f2043ff04f3f", func := "loop.example/g01117/laws.FnExactLeavesOf", spec := "fnExactLeavesOf", recurses := true, loops := true, apart := false, narrowed := true }
def FnExactLeavesOfUptoSaid : Prop := fnExactLeavesOfUptoRow.holds Try.pinned (OpenSpec.upto fnExactLeavesOfSpec)

end Rows
end Go.Proofs.Ytikccnimlgdcnaa

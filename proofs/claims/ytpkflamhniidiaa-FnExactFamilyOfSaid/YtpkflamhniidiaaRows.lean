/-
  No cell of these rows narrows 'for every input' (looked for: loops, veiled, ifaces, maps, wideKeys, modest, calm, conditions, laid).
  DERIVED. THE GIVEN ROWS OF THIS SEAT. 3 by the template 'for every input the law returns true; each argument reads behind the call as it read before'; 0 by the template 'total and deterministic' (their statements: YtpkflamhniidiaaTotals.lean).
  GIVEN WITH THE SEED: the statements are not yours to turn. If you find one false, say at which input.
  Laid BY PROGRAM, IN A SANDBOX (cutbox-rows.mjs): the forced cells as the released guide's own fill.sh prints them over the translation dc19131c423ca47d… (all of the seat's roots in one cut). By AI agents, Wed Nov 11 2026. No macro, syntax, notation, axiom, sorry.
-/
import Derived.Test.YtpkflamhniidiaaChecked
import GoSem.Claim
import GoSem.ClaimJoined
import GoSem.ClaimMapViews
import Derived.JoinedTies
import Derived.KernelRfl
namespace Go.Proofs.Ytpkflamhniidiaa
/- THE CELL 'sum', in the pinned program and in every row, IS THE sha256 OF THE DUMP (.gsa) THAT YtpkflamhniidiaaProg.lean LOADS. Nothing in Lean hashes anything: it is a label: what it is worth is what the hold of that sum in a sandbox is worth. -/
noncomputable def Try.pinned : Pinned := { name := "ytpkflamhniidiaa", sum := "dc19131c423ca47d97fcaf2a6becd512e8066d3d02a7081718bb7955bf78b708", checked := Try.checked }
namespace Rows
def none {H : Type} : Left H := { results := [], args := [] }

/-- 'laws.FnExactFamilyOf': WHATEVER THE INPUT: true; the input reads as it did. -/
def fnExactFamilyOfSpec : ChangeSpec := { name := "fnExactFamilyOf", fn := fun _ => fun
  | [d1, d2] => { results := [.lit (.bool true)], args := [d1, d2] }
  | _ => none }
def fnExactFamilyOfRow : OpenClaim := { program := "ytpkflamhniidiaa", sum := "dc19131c423ca47d97fcaf2a6becd512e8066d3d02a7081718bb7955bf78b708", func := "loop.example/g01117/laws.FnExactFamilyOf", spec := "fnExactFamilyOf", unfollowed := true, recurses := true, apart := false }
def FnExactFamilyOfSaid : Prop := fnExactFamilyOfRow.holds Try.pinned (OpenSpec.ofChange fnExactFamilyOfSpec)

/-- ITS FALSE NEIGHBOUR: 'it returns false'. Refute it at one input. -/
def fnExactFamilyOfWrong : ChangeSpec := { name := "fnExactFamilyOf", fn := fun _ => fun
  | [d1, d2] => { results := [.lit (.bool false)], args := [d1, d2] }
  | _ => none }
def FnExactFamilyOfWrongFalsely : Prop := fnExactFamilyOfRow.holds Try.pinned (OpenSpec.ofChange fnExactFamilyOfWrong)

/-- 'laws.FnExactThresholdFamily': WHATEVER THE INPUT: true; the input reads as it did. -/
def fnExactThresholdFamilySpec : ChangeSpec := { name := "fnExactThresholdFamily", fn := fun _ => fun
  | [d1, d2] => { results := [.lit (.bool true)], args := [d1, d2] }
  | _ => none }
def fnExactThresholdFamilyRow : OpenClaim := { program := "ytpkflamhniidiaa", sum := "dc19131c423ca47d97fcaf2a6becd512e8066d3d02a7081718bb7955bf78b708", func := "loop.example/g01117/laws.FnExactThresholdFamily", spec := "fnExactThresholdFamily", unfollowed := true, recurses := true, apart := false }
def FnExactThresholdFamilySaid : Prop := fnExactThresholdFamilyRow.holds Try.pinned (OpenSpec.ofChange fnExactThresholdFamilySpec)

/-- ITS FALSE NEIGHBOUR: 'it returns false'. Refute it at one input. -/
def fnExactThresholdFamilyWrong : ChangeSpec := { name := "fnExactThresholdFamily", fn := fun _ => fun
  | [d1, d2] => { results := [.lit (.bool false)], args := [d1, d2] }
  | _ => none }
def FnExactThresholdFamilyWrongFalsely : Prop := fnExactThresholdFamilyRow.holds Try.pinned (OpenSpec.ofChange fnExactThresholdFamilyWrong)

/-- 'laws.FnExactWeightedFamily': WHATEVER THE INPUT: true; the input reads as it did. -/
def fnExactWeightedFamilySpec : ChangeSpec := { name := "fnExactWeightedFamily", fn := fun _ => fun
  | [d1, d2] => { results := [.lit (.bool true)], args := [d1, d2] }
  | _ => none }
def fnExactWeightedFamilyRow : OpenClaim := { program := "ytpkflamhniidiaa", sum := "dc19131c423ca47d97fcaf2a6becd512e8066d3d02a7081718bb7955bf78b708", func := "loop.example/g01117/laws.FnExactWeightedFamily", spec := "fnExactWeightedFamily", unfollowed := true, recurses := true, apart := false }
def FnExactWeightedFamilySaid : Prop := fnExactWeightedFamilyRow.holds Try.pinned (OpenSpec.ofChange fnExactWeightedFamilySpec)

/-- ITS FALSE NEIGHBOUR: 'it returns false'. Refute it at one input. -/
def fnExactWeightedFamilyWrong : ChangeSpec := { name := "fnExactWeightedFamily", fn := fun _ => fun
  | [d1, d2] => { results := [.lit (.bool false)], args := [d1, d2] }
  | _ => none }
def FnExactWeightedFamilyWrongFalsely : Prop := fnExactWeightedFamilyRow.holds Try.pinned (OpenSpec.ofChange fnExactWeightedFamilyWrong)

/- THE SECOND FORM. 'bulk': how many values and letters a reading holds, each counted each time it is reached (what is shared counts as often as it is met; a slice's spare places count too). A statement '..UptoSaid' is the law's where the arguments, and the package variables that the reading takes, are together of bulk at most 1048576: NARROWER than '..Said'. Prove '..Said' where nothing that the law and all that it calls make is longer than what came in: it says more and counts as full. Else prove '..UptoSaid'. A law counts once. -/
mutual
def uptoBulk {H : Type} : DataW H → Nat
  | .lit (.string bytes) => bytes.length + 1
  | .lit _ => 1
  | .nil => 1
  | .ptr d => uptoBulk d + 1
  | .slice elems spare => uptoBulkAll elems + uptoBulkAll spare + 1
  | .agg parts => uptoBulkAll parts + 1
  | .iface _ d => uptoBulk d + 1
  | .map entries => uptoBulkEntries entries + 1
  | .held _ => 1
def uptoBulkAll {H : Type} : List (DataW H) → Nat
  | [] => 0
  | d :: r => uptoBulk d + uptoBulkAll r
def uptoBulkEntries {H : Type} : List (Lit × DataW H) → Nat
  | [] => 0
  | x :: r => uptoBulkEntry x + uptoBulkEntries r
def uptoBulkEntry {H : Type} : Lit × DataW H → Nat
  | (.string bytes, d) => bytes.length + uptoBulk d + 1
  | (_, d) => uptoBulk d + 1
 end
def uptoSmall : (H : Type) → List (DataW H) → Bool := fun _ ds => decide (uptoBulkAll ds ≤ 1048576)
def OpenSpec.upto (s : _root_.Go.ChangeSpec) : _root_.Go.OpenSpec := { _root_.Go.OpenSpec.ofChange s with cond := some uptoSmall }

/-- 'laws.FnExactFamilyOf', WHERE WHAT IT READS IS OF BULK AT MOST 1048576: true; the input reads as it did. -/
def fnExactFamilyOfUptoRow : OpenClaim := { program := "ytpkflamhniidiaa", sum := "dc19131c423ca47d97fcaf2a6becd512e8066d3d02a7081718bb7955bf78b708", func := "loop.example/g01117/laws.FnExactFamilyOf", spec := "fnExactFamilyOf", unfollowed := true, recurses := true, apart := false, narrowed := true }
def FnExactFamilyOfUptoSaid : Prop := fnExactFamilyOfUptoRow.holds Try.pinned (OpenSpec.upto fnExactFamilyOfSpec)

/-- 'laws.FnExactThresholdFamily', WHERE WHAT IT READS IS OF BULK AT MOST 1048576: true; the input reads as it did. -/
def fnExactThresholdFamilyUptoRow : OpenClaim := { program := "ytpkflamhniidiaa", sum := "dc19131c423ca47d97fcaf2a6becd512e8066d3d02a7081718bb7955bf78b708", func := "loop.example/g01117/laws.FnExactThresholdFamily", spec := "fnExactThresholdFamily", unfollowed := true, recurses := true, apart := false, narrowed := true }
def FnExactThresholdFamilyUptoSaid : Prop := fnExactThresholdFamilyUptoRow.holds Try.pinned (OpenSpec.upto fnExactThresholdFamilySpec)

/-- 'laws.FnExactWeightedFamily', WHERE WHAT IT READS IS OF BULK AT MOST 1048576: true; the input reads as it did. -/
def fnExactWeightedFamilyUptoRow : OpenClaim := { program := "ytpkflamhniidiaa", sum := "dc19131c423ca47d97fcaf2a6becd512e8066d3d02a7081718bb7955bf78b708", func := "loop.example/g01117/laws.FnExactWeightedFamily", spec := "fnExactWeightedFamily", unfollowed := true, recurses := true, apart := false, narrowed := true }
def FnExactWeightedFamilyUptoSaid : Prop := fnExactWeightedFamilyUptoRow.holds Try.pinned (OpenSpec.upto fnExactWeightedFamilySpec)

end Rows
end Go.Proofs.Ytpkflamhniidiaa

/-
  No cell of these rows narrows 'for every input' (looked for: loops, veiled, ifaces, maps, wideKeys, modest, calm, conditions, laid).
  DERIVED. THE GIVEN ROWS OF THIS SEAT. 5 by the template 'for every input the law returns true; each argument reads behind the call as it read before'; 0 by the template 'total and deterministic' (their statements: YtgndekojodpmkaaTotals.lean).
  GIVEN WITH THE SEED: the statements are not yours to turn. If you find one false, say at which input.
  Laid BY PROGRAM, IN A SANDBOX (cutbox-rows.mjs): the forced cells as the released guide's own fill.sh prints them over the translation 4e826bf06694086b… (all of the seat's roots in one cut). By AI agents, Wed Nov 11 2026. No macro, syntax, notation, axiom, sorry.
-/
import Derived.Test.YtgndekojodpmkaaChecked
import GoSem.Claim
import GoSem.ClaimJoined
import GoSem.ClaimMapViews
import Derived.JoinedTies
import Derived.KernelRfl
namespace Go.Proofs.Ytgndekojodpmkaa
/- THE CELL 'sum', in the pinned program and in every row, IS THE sha256 OF THE DUMP (.gsa) THAT YtgndekojodpmkaaProg.lean LOADS. Nothing in Lean hashes anything: it is a label: what it is worth is what the hold of that sum in a sandbox is worth. -/
noncomputable def Try.pinned : Pinned := { name := "ytgndekojodpmkaa", sum := "4e826bf06694086b0d94b5ef39b1fcd0d06b8ffe9b9fcf10990d14c71eed4c4b", checked := Try.checked }
namespace Rows
def none {H : Type} : Left H := { results := [], args := [] }

/-- 'laws.FnExactValidTable': WHATEVER THE INPUT: true; the input reads as it did. -/
def fnExactValidTableSpec : ChangeSpec := { name := "fnExactValidTable", fn := fun _ => fun
  | [d] => { results := [.lit (.bool true)], args := [d] }
  | _ => none }
def fnExactValidTableRow : OpenClaim := { program := "ytgndekojodpmkaa", sum := "4e826bf06694086b0d94b5ef39b1fcd0d06b8ffe9b9fcf10990d14c71eed4c4b", func := "loop.example/g01117/laws.FnExactValidTable", spec := "fnExactValidTable", apart := false }
def FnExactValidTableSaid : Prop := fnExactValidTableRow.holds Try.pinned (OpenSpec.ofChange fnExactValidTableSpec)

/-- ITS FALSE NEIGHBOUR: 'it returns false'. Refute it at one input. -/
def fnExactValidTableWrong : ChangeSpec := { name := "fnExactValidTable", fn := fun _ => fun
  | [d] => { results := [.lit (.bool false)], args := [d] }
  | _ => none }
def FnExactValidTableWrongFalsely : Prop := fnExactValidTableRow.holds Try.pinned (OpenSpec.ofChange fnExactValidTableWrong)

/-- 'laws.FnExactSameTable': WHATEVER THE INPUT: true; the input reads as it did. -/
def fnExactSameTableSpec : ChangeSpec := { name := "fnExactSameTable", fn := fun _ => fun
  | [d1, d2] => { results := [.lit (.bool true)], args := [d1, d2] }
  | _ => none }
def fnExactSameTableRow : OpenClaim := { program := "ytgndekojodpmkaa", sum := "4e826bf06694086b0d94b5ef39b1fcd0d06b8ffe9b9fcf10990d14c71eed4c4b", func := "loop.example/g01117/laws.FnExactSameTable", spec := "fnExactSameTable", unfollowed := true, recurses := true, apart := false }
def FnExactSameTableSaid : Prop := fnExactSameTableRow.holds Try.pinned (OpenSpec.ofChange fnExactSameTableSpec)

/-- ITS FALSE NEIGHBOUR: 'it returns false'. Refute it at one input. -/
def fnExactSameTableWrong : ChangeSpec := { name := "fnExactSameTable", fn := fun _ => fun
  | [d1, d2] => { results := [.lit (.bool false)], args := [d1, d2] }
  | _ => none }
def FnExactSameTableWrongFalsely : Prop := fnExactSameTableRow.holds Try.pinned (OpenSpec.ofChange fnExactSameTableWrong)

/-- 'laws.FnExactEitherScheme': WHATEVER THE INPUT: true; the input reads as it did. -/
def fnExactEitherSchemeSpec : ChangeSpec := { name := "fnExactEitherScheme", fn := fun _ => fun
  | [d1, d2] => { results := [.lit (.bool true)], args := [d1, d2] }
  | _ => none }
def fnExactEitherSchemeRow : OpenClaim := { program := "ytgndekojodpmkaa", sum := "4e826bf06694086b0d94b5ef39b1fcd0d06b8ffe9b9fcf10990d14c71eed4c4b", func := "loop.example/g01117/laws.FnExactEitherScheme", spec := "fnExactEitherScheme", apart := false }
def FnExactEitherSchemeSaid : Prop := fnExactEitherSchemeRow.holds Try.pinned (OpenSpec.ofChange fnExactEitherSchemeSpec)

/-- ITS FALSE NEIGHBOUR: 'it returns false'. Refute it at one input. -/
def fnExactEitherSchemeWrong : ChangeSpec := { name := "fnExactEitherScheme", fn := fun _ => fun
  | [d1, d2] => { results := [.lit (.bool false)], args := [d1, d2] }
  | _ => none }
def FnExactEitherSchemeWrongFalsely : Prop := fnExactEitherSchemeRow.holds Try.pinned (OpenSpec.ofChange fnExactEitherSchemeWrong)

/-- 'laws.FnExactBothScheme': WHATEVER THE INPUT: true; the input reads as it did. -/
def fnExactBothSchemeSpec : ChangeSpec := { name := "fnExactBothScheme", fn := fun _ => fun
  | [d1, d2] => { results := [.lit (.bool true)], args := [d1, d2] }
  | _ => none }
def fnExactBothSchemeRow : OpenClaim := { program := "ytgndekojodpmkaa", sum := "4e826bf06694086b0d94b5ef39b1fcd0d06b8ffe9b9fcf10990d14c71eed4c4b", func := "loop.example/g01117/laws.FnExactBothScheme", spec := "fnExactBothScheme", unfollowed := true, recurses := true, apart := false }
def FnExactBothSchemeSaid : Prop := fnExactBothSchemeRow.holds Try.pinned (OpenSpec.ofChange fnExactBothSchemeSpec)

/-- ITS FALSE NEIGHBOUR: 'it returns false'. Refute it at one input. -/
def fnExactBothSchemeWrong : ChangeSpec := { name := "fnExactBothScheme", fn := fun _ => fun
  | [d1, d2] => { results := [.lit (.bool false)], args := [d1, d2] }
  | _ => none }
def FnExactBothSchemeWrongFalsely : Prop := fnExactBothSchemeRow.holds Try.pinned (OpenSpec.ofChange fnExactBothSchemeWrong)

/-- 'laws.FnExactSharesOf': WHATEVER THE INPUT: true; the input reads as it did. -/
def fnExactSharesOfSpec : ChangeSpec := { name := "fnExactSharesOf", fn := fun _ => fun
  | [d1, d2, d3] => { results := [.lit (.bool true)], args := [d1, d2, d3] }
  | _ => none }
def fnExactSharesOfRow : OpenClaim := { program := "ytgndekojodpmkaa", sum := "4e826bf06694086b0d94b5ef39b1fcd0d06b8ffe9b9fcf10990d14c71eed4c4b", func := "loop.example/g01117/laws.FnExactSharesOf", spec := "fnExactSharesOf", unfollowed := true, recurses := true, apart := false }
def FnExactSharesOfSaid : Prop := fnExactSharesOfRow.holds Try.pinned (OpenSpec.ofChange fnExactSharesOfSpec)

/-- ITS FALSE NEIGHBOUR: 'it returns false'. Refute it at one input. -/
def fnExactSharesOfWrong : ChangeSpec := { name := "fnExactSharesOf", fn := fun _ => fun
  | [d1, d2, d3] => { results := [.lit (.bool false)], args := [d1, d2, d3] }
  | _ => none }
def FnExactSharesOfWrongFalsely : Prop := fnExactSharesOfRow.holds Try.pinned (OpenSpec.ofChange fnExactSharesOfWrong)

/- THE SECOND FORM. 'bulk': how many values and letters a reading holds, each counted each time it is reached (what is shared counts as often as it is met; a slice's spare places count too). A statement '..UptoSaid' is the law's where the arguments, and the package variables that the reading takes, are together of bulk at most 1048576: NARROWER than '..Said'. Prove '..Said' where nothing that the law and all that it calls make is longer than what came in: it says more and counts as full. Else prove '..UptoSaid'. A law counts once. -/
mutual
def uptoBulk {H : Type} : DataW H → Nat
  | .lit (.string bytes) => bytes.length + 1
  | .lit _ => 1
  | .nil => 1
  | .ptr d => uptoBulk d + 1
  | .slice elems spare => uptoBulkAll elems + uptoBulkAll spare + 1
  | .agg parts => uptoBulkAll parts + 1
  | .iface _ d => uptoBulk d + 1
  | .map entries => uptoBulkEntries entries + 1
  | .held _ => 1
def uptoBulkAll {H : Type} : List (DataW H) → Nat
  | [] => 0
  | d :: r => uptoBulk d + uptoBulkAll r
def uptoBulkEntries {H : Type} : List (Lit × DataW H) → Nat
  | [] => 0
  | x :: r => uptoBulkEntry x + uptoBulkEntries r
def uptoBulkEntry {H : Type} : Lit × DataW H → Nat
  | (.string bytes, d) => bytes.length + uptoBulk d + 1
  | (_, d) => uptoBulk d + 1
 end
def uptoSmall : (H : Type) → List (DataW H) → Bool := fun _ ds => decide (uptoBulkAll ds ≤ 1048576)
def OpenSpec.upto (s : _root_.Go.ChangeSpec) : _root_.Go.OpenSpec := { _root_.Go.OpenSpec.ofChange s with cond := some uptoSmall }

/-- 'laws.FnExactValidTable', WHERE WHAT IT READS IS OF BULK AT MOST 1048576: true; the input reads as it did. -/
def fnExactValidTableUptoRow : OpenClaim := { program := "ytgndekojodpmkaa", sum := "4e826bf06694086b0d94b5ef39b1fcd0d06b8ffe9b9fcf10990d14c71eed4c4b", func := "loop.example/g01117/laws.FnExactValidTable", spec := "fnExactValidTable", apart := false, narrowed := true }
def FnExactValidTableUptoSaid : Prop := fnExactValidTableUptoRow.holds Try.pinned (OpenSpec.upto fnExactValidTableSpec)

/-- 'laws.FnExactSameTable', WHERE WHAT IT READS IS OF BULK AT MOST 1048576: true; the input reads as it did. -/
def fnExactSameTableUptoRow : OpenClaim := { program := "ytgndekojodpmkaa", sum := "4e826bf06694086b0d94b5ef39b1fcd0d06b8ffe9b9fcf10990d14c71eed4c4b", func := "loop.example/g01117/laws.FnExactSameTable", spec := "fnExactSameTable", unfollowed := true, recurses := true, apart := false, narrowed := true }
def FnExactSameTableUptoSaid : Prop := fnExactSameTableUptoRow.holds Try.pinned (OpenSpec.upto fnExactSameTableSpec)

/-- 'laws.FnExactEitherScheme', WHERE WHAT IT READS IS OF BULK AT MOST 1048576: true; the input reads as it did. -/
def fnExactEitherSchemeUptoRow : OpenClaim := { program := "ytgndekojodpmkaa", sum := "4e826bf06694086b0d94b5ef39b1fcd0d06b8ffe9b9fcf10990d14c71eed4c4b", func := "loop.example/g01117/laws.FnExactEitherScheme", spec := "fnExactEitherScheme", apart := false, narrowed := true }
def FnExactEitherSchemeUptoSaid : Prop := fnExactEitherSchemeUptoRow.holds Try.pinned (OpenSpec.upto fnExactEitherSchemeSpec)

/-- 'laws.FnExactBothScheme', WHERE WHAT IT READS IS OF BULK AT MOST 1048576: true; the input reads as it did. -/
def fnExactBothSchemeUptoRow : OpenClaim := { program := "ytgndekojodpmkaa", sum := "4e826bf06694086b0d94b5ef39b1fcd0d06b8ffe9b9fcf10990d14c71eed4c4b", func := "loop.example/g01117/laws.FnExactBothScheme", spec := "fnExactBothScheme", unfollowed := true, recurses := true, apart := false, narrowed := true }
def FnExactBothSchemeUptoSaid : Prop := fnExactBothSchemeUptoRow.holds Try.pinned (OpenSpec.upto fnExactBothSchemeSpec)

/-- 'laws.FnExactSharesOf', WHERE WHAT IT READS IS OF BULK AT MOST 1048576: true; the input reads as it did. -/
def fnExactSharesOfUptoRow : OpenClaim := { program := "ytgndekojodpmkaa", sum := "4e826bf06694086b0d94b5ef39b1fcd0d06b8ffe9b9fcf10990d14c71eed4c4b", func := "loop.example/g01117/laws.FnExactSharesOf", spec := "fnExactSharesOf", unfollowed := true, recurses := true, apart := false, narrowed := true }
def FnExactSharesOfUptoSaid : Prop := fnExactSharesOfUptoRow.holds Try.pinned (OpenSpec.upto fnExactSharesOfSpec)

end Rows
end Go.Proofs.Ytgndekojodpmkaa

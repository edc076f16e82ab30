/-
  No cell of these rows narrows 'for every input' (looked for: loops, veiled, ifaces, maps, wideKeys, modest, calm, conditions, laid).
  DERIVED. THE GIVEN ROWS OF THIS SEAT. 12 by the template 'for every input the law returns true; each argument reads behind the call as it read before'; 0 by the template 'total and deterministic' (their statements: YtekhjoenejgmaaaTotals.lean).
  GIVEN WITH THE SEED: the statements are not yours to turn. If you find one false, say at which input.
  Laid BY PROGRAM, IN A SANDBOX (cutbox-rows.mjs): the forced cells as the released guide's own fill.sh prints them over the translation 2ba6c6913543fc68… (all of the seat's roots in one cut). By AI agents, Wed Nov 11 2026. No macro, syntax, notation, axiom, sorry.
-/
import Derived.Test.YtekhjoenejgmaaaChecked
import GoSem.Claim
import GoSem.ClaimJoined
import GoSem.ClaimMapViews
import Derived.JoinedTies
import Derived.KernelRfl
namespace Go.Proofs.Ytekhjoenejgmaaa
/- THE CELL 'sum', in the pinned program and in every row, IS THE sha256 OF THE DUMP (.gsa) THAT YtekhjoenejgmaaaProg.lean LOADS. Nothing in Lean hashes anything: it is a label: what it is worth is what the hold of that sum in a sandbox is worth. -/
noncomputable def Try.pinned : Pinned := { name := "ytekhjoenejgmaaa", sum := "2ba6c6913543fc68f4f96a6b3ead38ee320d3177d29db4ebace7981cc847a976", checked := Try.checked }
namespace Rows
def none {H : Type} : Left H := { results := [], args := [] }

/-- 'laws.FnExactSharesOf': WHATEVER THE INPUT: true; the input reads as it did. -/
def fnExactSharesOfSpec : ChangeSpec := { name := "fnExactSharesOf", fn := fun _ => fun
  | [d1, d2, d3] => { results := [.lit (.bool true)], args := [d1, d2, d3] }
  | _ => none }
def fnExactSharesOfRow : OpenClaim := { program := "ytekhjoenejgmaaa", sum := "2ba6c6913543fc68f4f96a6b3ead38ee320d3177d29db4ebace7981cc847a976", func := "loop.example/g01117/laws.FnExactSharesOf", spec := "fnExactSharesOf", unfollowed := true, recurses := true, apart := false }
def FnExactSharesOfSaid : Prop := fnExactSharesOfRow.holds Try.pinned (OpenSpec.ofChange fnExactSharesOfSpec)

/-- ITS FALSE NEIGHBOUR: 'it returns false'. Refute it at one input. -/
def fnExactSharesOfWrong : ChangeSpec := { name := "fnExactSharesOf", fn := fun _ => fun
  | [d1, d2, d3] => { results := [.lit (.bool false)], args := [d1, d2, d3] }
  | _ => none }
def FnExactSharesOfWrongFalsely : Prop := fnExactSharesOfRow.holds Try.pinned (OpenSpec.ofChange fnExactSharesOfWrong)

/-- 'laws.FnExactKernelOf': WHATEVER THE INPUT: true; the input reads as it did. -/
def fnExactKernelOfSpec : ChangeSpec := { name := "fnExactKernelOf", fn := fun _ => fun
  | [d] => { results := [.lit (.bool true)], args := [d] }
  | _ => none }
def fnExactKernelOfRow : OpenClaim := { program := "ytekhjoenejgmaaa", sum := "2ba6c6913543fc68f4f96a6b3ead38ee320d3177d29db4ebace7981cc847a976", func := "loop.example/g01117/laws.FnExactKernelOf", spec := "fnExactKernelOf", unfollowed := true, recurses := true, apart := false }
def FnExactKernelOfSaid : Prop := fnExactKernelOfRow.holds Try.pinned (OpenSpec.ofChange fnExactKernelOfSpec)

/-- ITS FALSE NEIGHBOUR: 'it returns false'. Refute it at one input. -/
def fnExactKernelOfWrong : ChangeSpec := { name := "fnExactKernelOf", fn := fun _ => fun
  | [d] => { results := [.lit (.bool false)], args := [d] }
  | _ => none }
def FnExactKernelOfWrongFalsely : Prop := fnExactKernelOfRow.holds Try.pinned (OpenSpec.ofChange fnExactKernelOfWrong)

/-- 'laws.FnExactIsSpanned': WHATEVER THE INPUT: true; the input reads as it did. -/
def fnExactIsSpannedSpec : ChangeSpec := { name := "fnExactIsSpanned", fn := fun _ => fun
  | [d1, d2] => { results := [.lit (.bool true)], args := [d1, d2] }
  | _ => none }
def fnExactIsSpannedRow : OpenClaim := { program := "ytekhjoenejgmaaa", sum := "2ba6c6913543fc68f4f96a6b3ead38ee320d3177d29db4ebace7981cc847a976", func := "loop.example/g01117/laws.FnExactIsSpanned", spec := "fnExactIsSpanned", unfollowed := true, recurses := true, apart := false }
def FnExactIsSpannedSaid : Prop := fnExactIsSpannedRow.holds Try.pinned (OpenSpec.ofChange fnExactIsSpannedSpec)

/-- ITS FALSE NEIGHBOUR: 'it returns false'. Refute it at one input. -/
def fnExactIsSpannedWrong : ChangeSpec := { name := "fnExactIsSpanned", fn := fun _ => fun
  | [d1, d2] => { results := [.lit (.bool false)], args := [d1, d2] }
  | _ => none }
def FnExactIsSpannedWrongFalsely : Prop := fnExactIsSpannedRow.holds Try.pinned (OpenSpec.ofChange fnExactIsSpannedWrong)

/-- 'laws.FnExactCombination': WHATEVER THE INPUT: true; the input reads as it did. -/
def fnExactCombinationSpec : ChangeSpec := { name := "fnExactCombination", fn := fun _ => fun
  | [d1, d2] => { results := [.lit (.bool true)], args := [d1, d2] }
  | _ => none }
def fnExactCombinationRow : OpenClaim := { program := "ytekhjoenejgmaaa", sum := "2ba6c6913543fc68f4f96a6b3ead38ee320d3177d29db4ebace7981cc847a976", func := "loop.example/g01117/laws.FnExactCombination", spec := "fnExactCombination", unfollowed := true, recurses := true, apart := false }
def FnExactCombinationSaid : Prop := fnExactCombinationRow.holds Try.pinned (OpenSpec.ofChange fnExactCombinationSpec)

/-- ITS FALSE NEIGHBOUR: 'it returns false'. Refute it at one input. -/
def fnExactCombinationWrong : ChangeSpec := { name := "fnExactCombination", fn := fun _ => fun
  | [d1, d2] => { results := [.lit (.bool false)], args := [d1, d2] }
  | _ => none }
def FnExactCombinationWrongFalsely : Prop := fnExactCombinationRow.holds Try.pinned (OpenSpec.ofChange fnExactCombinationWrong)

/-- 'laws.FnExactSolveFor': WHATEVER THE INPUT: true; the input reads as it did. -/
def fnExactSolveForSpec : ChangeSpec := { name := "fnExactSolveFor", fn := fun _ => fun
  | [d1, d2] => { results := [.lit (.bool true)], args := [d1, d2] }
  | _ => none }
def fnExactSolveForRow : OpenClaim := { program := "ytekhjoenejgmaaa", sum := "2ba6c6913543fc68f4f96a6b3ead38ee320d3177d29db4ebace7981cc847a976", func := "loop.example/g01117/laws.FnExactSolveFor", spec := "fnExactSolveFor", unfollowed := true, recurses := true, apart := false }
def FnExactSolveForSaid : Prop := fnExactSolveForRow.holds Try.pinned (OpenSpec.ofChange fnExactSolveForSpec)

/-- ITS FALSE NEIGHBOUR: 'it returns false'. Refute it at one input. -/
def fnExactSolveForWrong : ChangeSpec := { name := "fnExactSolveFor", fn := fun _ => fun
  | [d1, d2] => { results := [.lit (.bool false)], args := [d1, d2] }
  | _ => none }
def FnExactSolveForWrongFalsely : Prop := fnExactSolveForRow.holds Try.pinned (OpenSpec.ofChange fnExactSolveForWrong)

/-- 'laws.FnExactInverseOf': WHATEVER THE INPUT: true; the input reads as it did. -/
def fnExactInverseOfSpec : ChangeSpec := { name := "fnExactInverseOf", fn := fun _ => fun
  | [d] => { results := [.lit (.bool true)], args := [d] }
  | _ => none }
def fnExactInverseOfRow : OpenClaim := { program := "ytekhjoenejgmaaa", sum := "2ba6c6913543fc68f4f96a6b3ead38ee320d3177d29db4ebace7981cc847a976", func := "loop.example/g01117/laws.FnExactInverseOf", spec := "fnExactInverseOf", unfollowed := true, recurses := true, apart := false }
def FnExactInverseOfSaid : Prop := fnExactInverseOfRow.holds Try.pinned (OpenSpec.ofChange fnExactInverseOfSpec)

/-- ITS FALSE NEIGHBOUR: 'it returns false'. Refute it at one input. -/
def fnExactInverseOfWrong : ChangeSpec := { name := "fnExactInverseOf", fn := fun _ => fun
  | [d] => { results := [.lit (.bool false)], args := [d] }
  | _ => none }
def FnExactInverseOfWrongFalsely : Prop := fnExactInverseOfRow.holds Try.pinned (OpenSpec.ofChange fnExactInverseOfWrong)

/-- 'laws.FnExactSchemeOpens': WHATEVER THE INPUT: true; the input reads as it did. -/
def fnExactSchemeOpensSpec : ChangeSpec := { name := "fnExactSchemeOpens", fn := fun _ => fun
  | [d1, d2] => { results := [.lit (.bool true)], args := [d1, d2] }
  | _ => none }
def fnExactSchemeOpensRow : OpenClaim := { program := "ytekhjoenejgmaaa", sum := "2ba6c6913543fc68f4f96a6b3ead38ee320d3177d29db4ebace7981cc847a976", func := "loop.example/g01117/laws.FnExactSchemeOpens", spec := "fnExactSchemeOpens", unfollowed := true, recurses := true, apart := false }
def FnExactSchemeOpensSaid : Prop := fnExactSchemeOpensRow.holds Try.pinned (OpenSpec.ofChange fnExactSchemeOpensSpec)

/-- ITS FALSE NEIGHBOUR: 'it returns false'. Refute it at one input. -/
def fnExactSchemeOpensWrong : ChangeSpec := { name := "fnExactSchemeOpens", fn := fun _ => fun
  | [d1, d2] => { results := [.lit (.bool false)], args := [d1, d2] }
  | _ => none }
def FnExactSchemeOpensWrongFalsely : Prop := fnExactSchemeOpensRow.holds Try.pinned (OpenSpec.ofChange fnExactSchemeOpensWrong)

/-- 'laws.FnExactOpeningElements': WHATEVER THE INPUT: true; the input reads as it did. -/
def fnExactOpeningElementsSpec : ChangeSpec := { name := "fnExactOpeningElements", fn := fun _ => fun
  | [d1, d2] => { results := [.lit (.bool true)], args := [d1, d2] }
  | _ => none }
def fnExactOpeningElementsRow : OpenClaim := { program := "ytekhjoenejgmaaa", sum := "2ba6c6913543fc68f4f96a6b3ead38ee320d3177d29db4ebace7981cc847a976", func := "loop.example/g01117/laws.FnExactOpeningElements", spec := "fnExactOpeningElements", unfollowed := true, recurses := true, apart := false }
def FnExactOpeningElementsSaid : Prop := fnExactOpeningElementsRow.holds Try.pinned (OpenSpec.ofChange fnExactOpeningElementsSpec)

/-- ITS FALSE NEIGHBOUR: 'it returns false'. Refute it at one input. -/
def fnExactOpeningElementsWrong : ChangeSpec := { name := "fnExactOpeningElements", fn := fun _ => fun
  | [d1, d2] => { results := [.lit (.bool false)], args := [d1, d2] }
  | _ => none }
def FnExactOpeningElementsWrongFalsely : Prop := fnExactOpeningElementsRow.holds Try.pinned (OpenSpec.ofChange fnExactOpeningElementsWrong)

/-- 'laws.FnExactRebuild': WHATEVER THE INPUT: true; the input reads as it did. -/
def fnExactRebuildSpec : ChangeSpec := { name := "fnExactRebuild", fn := fun _ => fun
  | [d1, d2, d3] => { results := [.lit (.bool true)], args := [d1, d2, d3] }
  | _ => none }
def fnExactRebuildRow : OpenClaim := { program := "ytekhjoenejgmaaa", sum := "2ba6c6913543fc68f4f96a6b3ead38ee320d3177d29db4ebace7981cc847a976", func := "loop.example/g01117/laws.FnExactRebuild", spec := "fnExactRebuild", unfollowed := true, recurses := true, apart := false }
def FnExactRebuildSaid : Prop := fnExactRebuildRow.holds Try.pinned (OpenSpec.ofChange fnExactRebuildSpec)

/-- ITS FALSE NEIGHBOUR: 'it returns false'. Refute it at one input. -/
def fnExactRebuildWrong : ChangeSpec := { name := "fnExactRebuild", fn := fun _ => fun
  | [d1, d2, d3] => { results := [.lit (.bool false)], args := [d1, d2, d3] }
  | _ => none }
def FnExactRebuildWrongFalsely : Prop := fnExactRebuildRow.holds Try.pinned (OpenSpec.ofChange fnExactRebuildWrong)

/-- 'laws.FnExactIsConsistent': WHATEVER THE INPUT: true; the input reads as it did. -/
def fnExactIsConsistentSpec : ChangeSpec := { name := "fnExactIsConsistent", fn := fun _ => fun
  | [d1, d2, d3] => { results := [.lit (.bool true)], args := [d1, d2, d3] }
  | _ => none }
def fnExactIsConsistentRow : OpenClaim := { program := "ytekhjoenejgmaaa", sum := "2ba6c6913543fc68f4f96a6b3ead38ee320d3177d29db4ebace7981cc847a976", func := "loop.example/g01117/laws.FnExactIsConsistent", spec := "fnExactIsConsistent", unfollowed := true, recurses := true, apart := false }
def FnExactIsConsistentSaid : Prop := fnExactIsConsistentRow.holds Try.pinned (OpenSpec.ofChange fnExactIsConsistentSpec)

/-- ITS FALSE NEIGHBOUR: 'it returns false'. Refute it at one input. -/
def fnExactIsConsistentWrong : ChangeSpec := { name := "fnExactIsConsistent", fn := fun _ => fun
  | [d1, d2, d3] => { results := [.lit (.bool false)], args := [d1, d2, d3] }
  | _ => none }
def FnExactIsConsistentWrongFalsely : Prop := fnExactIsConsistentRow.holds Try.pinned (OpenSpec.ofChange fnExactIsConsistentWrong)

/-- 'laws.FnExactCompletion': WHATEVER THE INPUT: true; the input reads as it did. -/
def fnExactCompletionSpec : ChangeSpec := { name := "fnExactCompletion", fn := fun _ => fun
  | [d1, d2, d3, d4] => { results := [.lit (.bool true)], args := [d1, d2, d3, d4] }
  | _ => none }
def fnExactCompletionRow : OpenClaim := { program := "ytekhjoenejgmaaa", sum := "2ba6c6913543fc68f4f96a6b3ead38ee320d3177d29db4ebace7981cc847a976", func := "loop.example/g01117/laws.FnExactCompletion", spec := "fnExactCompletion", unfollowed := true, recurses := true, apart := false }
def FnExactCompletionSaid : Prop := fnExactCompletionRow.holds Try.pinned (OpenSpec.ofChange fnExactCompletionSpec)

/-- ITS FALSE NEIGHBOUR: 'it returns false'. Refute it at one input. -/
def fnExactCompletionWrong : ChangeSpec := { name := "fnExactCompletion", fn := fun _ => fun
  | [d1, d2, d3, d4] => { results := [.lit (.bool false)], args := [d1, d2, d3, d4] }
  | _ => none }
def FnExactCompletionWrongFalsely : Prop := fnExactCompletionRow.holds Try.pinned (OpenSpec.ofChange fnExactCompletionWrong)

/-- 'laws.FnExactFamilyOfScheme': WHATEVER THE INPUT: true; the input reads as it did. -/
def fnExactFamilyOfSchemeSpec : ChangeSpec := { name := "fnExactFamilyOfScheme", fn := fun _ => fun
  | [d] => { results := [.lit (.bool true)], args := [d] }
  | _ => none }
def fnExactFamilyOfSchemeRow : OpenClaim := { program := "ytekhjoenejgmaaa", sum := "2ba6c6913543fc68f4f96a6b3ead38ee320d3177d29db4ebace7981cc847a976", func := "loop.example/g01117/laws.FnExactFamilyOfScheme", spec := "fnExactFamilyOfScheme", unfollowed := true, recurses := true, apart := false }
def FnExactFamilyOfSchemeSaid : Prop := fnExactFamilyOfSchemeRow.holds Try.pinned (OpenSpec.ofChange fnExactFamilyOfSchemeSpec)

/-- ITS FALSE NEIGHBOUR: 'it returns false'. Refute it at one input. -/
def fnExactFamilyOfSchemeWrong : ChangeSpec := { name := "fnExactFamilyOfScheme", fn := fun _ => fun
  | [d] => { results := [.lit (.bool false)], args := [d] }
  | _ => none }
def FnExactFamilyOfSchemeWrongFalsely : Prop := fnExactFamilyOfSchemeRow.holds Try.pinned (OpenSpec.ofChange fnExactFamilyOfSchemeWrong)

/- THE SECOND FORM. 'bulk': how many values and letters a reading holds, each counted each time it is reached (what is shared counts as often as it is met; a slice's spare places count too). A statement '..UptoSaid' is the law's where the arguments, and the package variables that the reading takes, are together of bulk at most 1048576: NARROWER than '..Said'. Prove '..Said' where nothing that the law and all that it calls make is longer than what came in: it says more and counts as full. Else prove '..UptoSaid'. A law counts once. -/
mutual
def uptoBulk {H : Type} : DataW H → Nat
  | .lit (.string bytes) => bytes.length + 1
  | .lit _ => 1
  | .nil => 1
  | .ptr d => uptoBulk d + 1
  | .slice elems spare => uptoBulkAll elems + uptoBulkAll spare + 1
  | .agg parts => uptoBulkAll parts + 1
  | .iface _ d => uptoBulk d + 1
  | .map entries => uptoBulkEntries entries + 1
  | .held _ => 1
def uptoBulkAll {H : Type} : List (DataW H) → Nat
  | [] => 0
  | d :: r => uptoBulk d + uptoBulkAll r
def uptoBulkEntries {H : Type} : List (Lit × DataW H) → Nat
  | [] => 0
  | x :: r => uptoBulkEntry x + uptoBulkEntries r
def uptoBulkEntry {H : Type} : Lit × DataW H → Nat
  | (.string bytes, d) => bytes.length + uptoBulk d + 1
  | (_, d) => uptoBulk d + 1
 end
def uptoSmall : (H : Type) → List (DataW H) → Bool := fun _ ds => decide (uptoBulkAll ds ≤ 1048576)
def OpenSpec.upto (s : _root_.Go.ChangeSpec) : _root_.Go.OpenSpec := { _root_.Go.OpenSpec.ofChange s with cond := some uptoSmall }

/-- 'laws.FnExactSharesOf', WHERE WHAT IT READS IS OF BULK AT MOST 1048576: true; the input reads as it did. -/
def fnExactSharesOfUptoRow : OpenClaim := { program := "ytekhjoenejgmaaa", sum := "2ba6c6913543fc68f4f96a6b3ead38ee320d3177d29db4ebace7981cc847a976", func := "loop.example/g01117/laws.FnExactSharesOf", spec := "fnExactSharesOf", unfollowed := true, recurses := true, apart := false, narrowed := true }
def FnExactSharesOfUptoSaid : Prop := fnExactSharesOfUptoRow.holds Try.pinned (OpenSpec.upto fnExactSharesOfSpec)

/-- 'laws.FnExactKernelOf', WHERE WHAT IT READS IS OF BULK AT MOST 1048576: true; the input reads as it did. -/
def fnExactKernelOfUptoRow : OpenClaim := { program := "ytekhjoenejgmaaa", sum := "2ba6c6913543fc68f4f96a6b3ead38ee320d3177d29db4ebace7981cc847a976", func := "loop.example/g01117/laws.FnExactKernelOf", spec := "fnExactKernelOf", unfollowed := true, recurses := true, apart := false, narrowed := true }
def FnExactKernelOfUptoSaid : Prop := fnExactKernelOfUptoRow.holds Try.pinned (OpenSpec.upto fnExactKernelOfSpec)

/-- 'laws.FnExactIsSpanned', WHERE WHAT IT READS IS OF BULK AT MOST 1048576: true; the input reads as it did. -/
def fnExactIsSpannedUptoRow : OpenClaim := { program := "ytekhjoenejgmaaa", sum := "2ba6c6913543fc68f4f96a6b3ead38ee320d3177d29db4ebace7981cc847a976", func := "loop.example/g01117/laws.FnExactIsSpanned", spec := "fnExactIsSpanned", unfollowed := true, recurses := true, apart := false, narrowed := true }
def FnExactIsSpannedUptoSaid : Prop := fnExactIsSpannedUptoRow.holds Try.pinned (OpenSpec.upto fnExactIsSpannedSpec)

/-- 'laws.FnExactCombination', WHERE WHAT IT READS IS OF BULK AT MOST 1048576: true; the input reads as it did. -/
def fnExactCombinationUptoRow : OpenClaim := { program := "ytekhjoenejgmaaa", sum := "2ba6c6913543fc68f4f96a6b3ead38ee320d3177d29db4ebace7981cc847a976", func := "loop.example/g01117/laws.FnExactCombination", spec := "fnExactCombination", unfollowed := true, recurses := true, apart := false, narrowed := true }
def FnExactCombinationUptoSaid : Prop := fnExactCombinationUptoRow.holds Try.pinned (OpenSpec.upto fnExactCombinationSpec)

/-- 'laws.FnExactSolveFor', WHERE WHAT IT READS IS OF BULK AT MOST 1048576: true; the input reads as it did. -/
def fnExactSolveForUptoRow : OpenClaim := { program := "ytekhjoenejgmaaa", sum := "2ba6c6913543fc68f4f96a6b3ead38ee320d3177d29db4ebace7981cc847a976", func := "loop.example/g01117/laws.FnExactSolveFor", spec := "fnExactSolveFor", unfollowed := true, recurses := true, apart := false, narrowed := true }
def FnExactSolveForUptoSaid : Prop := fnExactSolveForUptoRow.holds Try.pinned (OpenSpec.upto fnExactSolveForSpec)

/-- 'laws.FnExactInverseOf', WHERE WHAT IT READS IS OF BULK AT MOST 1048576: true; the input reads as it did. -/
def fnExactInverseOfUptoRow : OpenClaim := { program := "ytekhjoenejgmaaa", sum := "2ba6c6913543fc68f4f96a6b3ead38ee320d3177d29db4ebace7981cc847a976", func := "loop.example/g01117/laws.FnExactInverseOf", spec := "fnExactInverseOf", unfollowed := true, recurses := true, apart := false, narrowed := true }
def FnExactInverseOfUptoSaid : Prop := fnExactInverseOfUptoRow.holds Try.pinned (OpenSpec.upto fnExactInverseOfSpec)

/-- 'laws.FnExactSchemeOpens', WHERE WHAT IT READS IS OF BULK AT MOST 1048576: true; the input reads as it did. -/
def fnExactSchemeOpensUptoRow : OpenClaim := { program := "ytekhjoenejgmaaa", sum := "2ba6c6913543fc68f4f96a6b3ead38ee320d3177d29db4ebace7981cc847a976", func := "loop.example/g01117/laws.FnExactSchemeOpens", spec := "fnExactSchemeOpens", unfollowed := true, recurses := true, apart := false, narrowed := true }
def FnExactSchemeOpensUptoSaid : Prop := fnExactSchemeOpensUptoRow.holds Try.pinned (OpenSpec.upto fnExactSchemeOpensSpec)

/-- 'laws.FnExactOpeningElements', WHERE WHAT IT READS IS OF BULK AT MOST 1048576: true; the input reads as it did. -/
def fnExactOpeningElementsUptoRow : OpenClaim := { program := "ytekhjoenejgmaaa", sum := "2ba6c6913543fc68f4f96a6b3ead38ee320d3177d29db4ebace7981cc847a976", func := "loop.example/g01117/laws.FnExactOpeningElements", spec := "fnExactOpeningElements", unfollowed := true, recurses := true, apart := false, narrowed := true }
def FnExactOpeningElementsUptoSaid : Prop := fnExactOpeningElementsUptoRow.holds Try.pinned (OpenSpec.upto fnExactOpeningElementsSpec)

/-- 'laws.FnExactRebuild', WHERE WHAT IT READS IS OF BULK AT MOST 1048576: true; the input reads as it did. -/
def fnExactRebuildUptoRow : OpenClaim := { program := "ytekhjoenejgmaaa", sum := "2ba6c6913543fc68f4f96a6b3ead38ee320d3177d29db4ebace7981cc847a976", func := "loop.example/g01117/laws.FnExactRebuild", spec := "fnExactRebuild", unfollowed := true, recurses := true, apart := false, narrowed := true }
def FnExactRebuildUptoSaid : Prop := fnExactRebuildUptoRow.holds Try.pinned (OpenSpec.upto fnExactRebuildSpec)

/-- 'laws.FnExactIsConsistent', WHERE WHAT IT READS IS OF BULK AT MOST 1048576: true; the input reads as it did. -/
def fnExactIsConsistentUptoRow : OpenClaim := { program := "ytekhjoenejgmaaa", sum := "2ba6c6913543fc68f4f96a6b3ead38ee320d3177d29db4ebace7981cc847a976", func := "loop.example/g01117/laws.FnExactIsConsistent", spec := "fnExactIsConsistent", unfollowed := true, recurses := true, apart := false, narrowed := true }
def FnExactIsConsistentUptoSaid : Prop := fnExactIsConsistentUptoRow.holds Try.pinned (OpenSpec.upto fnExactIsConsistentSpec)

/-- 'laws.FnExactCompletion', WHERE WHAT IT READS IS OF BULK AT MOST 1048576: true; the input reads as it did. -/
def fnExactCompletionUptoRow : OpenClaim := { program := "ytekhjoenejgmaaa", sum := "2ba6c6913543fc68f4f96a6b3ead38ee320d3177d29db4ebace7981cc847a976", func := "loop.example/g01117/laws.FnExactCompletion", spec := "fnExactCompletion", unfollowed := true, recurses := true, apart := false, narrowed := true }
def FnExactCompletionUptoSaid : Prop := fnExactCompletionUptoRow.holds Try.pinned (OpenSpec.upto fnExactCompletionSpec)

/-- 'laws.FnExactFamilyOfScheme', WHERE WHAT IT READS IS OF BULK AT MOST 1048576: true; the input reads as it did. -/
def fnExactFamilyOfSchemeUptoRow : OpenClaim := { program := "ytekhjoenejgmaaa", sum := "2ba6c6913543fc68f4f96a6b3ead38ee320d3177d29db4ebace7981cc847a976", func := "loop.example/g01117/laws.FnExactFamilyOfScheme", spec := "fnExactFamilyOfScheme", unfollowed := true, recurses := true, apart := false, narrowed := true }
def FnExactFamilyOfSchemeUptoSaid : Prop := fnExactFamilyOfSchemeUptoRow.holds Try.pinned (OpenSpec.upto fnExactFamilyOfSchemeSpec)

end Rows
end Go.Proofs.Ytekhjoenejgmaaa

/-
  NARROWER THAN 'FOR EVERY INPUT', by the rows' own cells (each row's printed sentence says how): FnExactPutGate: loops.
  DERIVED. THE GIVEN ROWS OF THIS SEAT. 7 by the template 'for every input the law returns true; each argument reads behind the call as it read before'; 0 by the template 'total and deterministic' (their statements: YtnebkhelobpkpaaTotals.lean).
  GIVEN WITH THE SEED: the statements are not yours to turn. If you find one false, say at which input.
  Laid BY PROGRAM, IN A SANDBOX (cutbox-rows.mjs): the forced cells as the released guide's own fill.sh prints them over the translation abf8d500e7c068fb… (all of the seat's roots in one cut). By AI agents, Wed Nov 11 2026. No macro, syntax, notation, axiom, sorry.
-/
import Derived.Test.YtnebkhelobpkpaaChecked
import GoSem.Claim
import GoSem.ClaimJoined
import GoSem.ClaimMapViews
import Derived.JoinedTies
import Derived.KernelRfl
namespace Go.Proofs.Ytnebkhelobpkpaa
/- THE CELL 'sum', in the pinned program and in every row, IS THE sha256 OF THE DUMP (.gsa) THAT YtnebkhelobpkpaaProg.lean LOADS. Nothing in Lean hashes anything: it is a label: what it is worth is what the hold of that sum in a sandbox is worth. -/
noncomputable def Try.pinned : Pinned := { name := "ytnebkhelobpkpaa", sum := "abf8d500e7c068fb5cb61aeda9dba0e487f55c98523e3d8f6856fef08cfdc7b5", checked := Try.checked }
namespace Rows
def none {H : Type} : Left H := { results := [], args := [] }

/-- 'laws.FnExactPutGate': WHATEVER THE INPUT: true; the input reads as it did. -/
def fnExactPutGateSpec : ChangeSpec := { name := "fnExactPutGate", fn := fun _ => fun
  | [d1, d2, d3, d4] => { results := [.lit (.bool true)], args := [d1, d2, d3, d4] }
  | _ => none }
def fnExactPutGateRow : OpenClaim := { program := "ytnebkhelobpkpaa", sum := "abf8d500e7c068fb5cb61aeda9dba0e487f55c98523e3d8f6856fef08cfdc7b5", func := "loop.example/g01117/laws.FnExactPutGate", spec := "fnExactPutGate", unfollowed := true, recurses := true, loops := true, apart := false }
def FnExactPutGateSaid : Prop := fnExactPutGateRow.holds Try.pinned (OpenSpec.ofChange fnExactPutGateSpec)

/-- ITS FALSE NEIGHBOUR: 'it returns false'. Refute it at one input. -/
def fnExactPutGateWrong : ChangeSpec := { name := "fnExactPutGate", fn := fun _ => fun
  | [d1, d2, d3, d4] => { results := [.lit (.bool false)], args := [d1, d2, d3, d4] }
  | _ => none }
def FnExactPutGateWrongFalsely : Prop := fnExactPutGateRow.holds Try.pinned (OpenSpec.ofChange fnExactPutGateWrong)

/-- 'laws.FnExactFamilyOfScheme': WHATEVER THE INPUT: true; the input reads as it did. -/
def fnExactFamilyOfSchemeSpec : ChangeSpec := { name := "fnExactFamilyOfScheme", fn := fun _ => fun
  | [d] => { results := [.lit (.bool true)], args := [d] }
  | _ => none }
def fnExactFamilyOfSchemeRow : OpenClaim := { program := "ytnebkhelobpkpaa", sum := "abf8d500e7c068fb5cb61aeda9dba0e487f55c98523e3d8f6856fef08cfdc7b5", func := "loop.example/g01117/laws.FnExactFamilyOfScheme", spec := "fnExactFamilyOfScheme", unfollowed := true, recurses := true, apart := false }
def FnExactFamilyOfSchemeSaid : Prop := fnExactFamilyOfSchemeRow.holds Try.pinned (OpenSpec.ofChange fnExactFamilyOfSchemeSpec)

/-- ITS FALSE NEIGHBOUR: 'it returns false'. Refute it at one input. -/
def fnExactFamilyOfSchemeWrong : ChangeSpec := { name := "fnExactFamilyOfScheme", fn := fun _ => fun
  | [d] => { results := [.lit (.bool false)], args := [d] }
  | _ => none }
def FnExactFamilyOfSchemeWrongFalsely : Prop := fnExactFamilyOfSchemeRow.holds Try.pinned (OpenSpec.ofChange fnExactFamilyOfSchemeWrong)

/-- 'laws.FnExactCompletion': WHATEVER THE INPUT: true; the input reads as it did. -/
def fnExactCompletionSpec : ChangeSpec := { name := "fnExactCompletion", fn := fun _ => fun
  | [d1, d2, d3, d4] => { results := [.lit (.bool true)], args := [d1, d2, d3, d4] }
  | _ => none }
def fnExactCompletionRow : OpenClaim := { program := "ytnebkhelobpkpaa", sum := "abf8d500e7c068fb5cb61aeda9dba0e487f55c98523e3d8f6856fef08cfdc7b5", func := "loop.example/g01117/laws.FnExactCompletion", spec := "fnExactCompletion", unfollowed := true, recurses := true, apart := false }
def FnExactCompletionSaid : Prop := fnExactCompletionRow.holds Try.pinned (OpenSpec.ofChange fnExactCompletionSpec)

/-- ITS FALSE NEIGHBOUR: 'it returns false'. Refute it at one input. -/
def fnExactCompletionWrong : ChangeSpec := { name := "fnExactCompletion", fn := fun _ => fun
  | [d1, d2, d3, d4] => { results := [.lit (.bool false)], args := [d1, d2, d3, d4] }
  | _ => none }
def FnExactCompletionWrongFalsely : Prop := fnExactCompletionRow.holds Try.pinned (OpenSpec.ofChange fnExactCompletionWrong)

/-- 'laws.FnExactDualScheme': WHATEVER THE INPUT: true; the input reads as it did. -/
def fnExactDualSchemeSpec : ChangeSpec := { name := "fnExactDualScheme", fn := fun _ => fun
  | [d] => { results := [.lit (.bool true)], args := [d] }
  | _ => none }
def fnExactDualSchemeRow : OpenClaim := { program := "ytnebkhelobpkpaa", sum := "abf8d500e7c068fb5cb61aeda9dba0e487f55c98523e3d8f6856fef08cfdc7b5", func := "loop.example/g01117/laws.FnExactDualScheme", spec := "fnExactDualScheme", unfollowed := true, recurses := true, apart := false }
def FnExactDualSchemeSaid : Prop := fnExactDualSchemeRow.holds Try.pinned (OpenSpec.ofChange fnExactDualSchemeSpec)

/-- ITS FALSE NEIGHBOUR: 'it returns false'. Refute it at one input. -/
def fnExactDualSchemeWrong : ChangeSpec := { name := "fnExactDualScheme", fn := fun _ => fun
  | [d] => { results := [.lit (.bool false)], args := [d] }
  | _ => none }
def FnExactDualSchemeWrongFalsely : Prop := fnExactDualSchemeRow.holds Try.pinned (OpenSpec.ofChange fnExactDualSchemeWrong)

/-- 'laws.FnExactEitherScheme': WHATEVER THE INPUT: true; the input reads as it did. -/
def fnExactEitherSchemeSpec : ChangeSpec := { name := "fnExactEitherScheme", fn := fun _ => fun
  | [d1, d2] => { results := [.lit (.bool true)], args := [d1, d2] }
  | _ => none }
def fnExactEitherSchemeRow : OpenClaim := { program := "ytnebkhelobpkpaa", sum := "abf8d500e7c068fb5cb61aeda9dba0e487f55c98523e3d8f6856fef08cfdc7b5", func := "loop.example/g01117/laws.FnExactEitherScheme", spec := "fnExactEitherScheme", apart := false }
def FnExactEitherSchemeSaid : Prop := fnExactEitherSchemeRow.holds Try.pinned (OpenSpec.ofChange fnExactEitherSchemeSpec)

/-- ITS FALSE NEIGHBOUR: 'it returns false'. Refute it at one input. -/
def fnExactEitherSchemeWrong : ChangeSpec := { name := "fnExactEitherScheme", fn := fun _ => fun
  | [d1, d2] => { results := [.lit (.bool false)], args := [d1, d2] }
  | _ => none }
def FnExactEitherSchemeWrongFalsely : Prop := fnExactEitherSchemeRow.holds Try.pinned (OpenSpec.ofChange fnExactEitherSchemeWrong)

/-- 'laws.FnExactBothScheme': WHATEVER THE INPUT: true; the input reads as it did. -/
def fnExactBothSchemeSpec : ChangeSpec := { name := "fnExactBothScheme", fn := fun _ => fun
  | [d1, d2] => { results := [.lit (.bool true)], args := [d1, d2] }
  | _ => none }
def fnExactBothSchemeRow : OpenClaim := { program := "ytnebkhelobpkpaa", sum := "abf8d500e7c068fb5cb61aeda9dba0e487f55c98523e3d8f6856fef08cfdc7b5", func := "loop.example/g01117/laws.FnExactBothScheme", spec := "fnExactBothScheme", unfollowed := true, recurses := true, apart := false }
def FnExactBothSchemeSaid : Prop := fnExactBothSchemeRow.holds Try.pinned (OpenSpec.ofChange fnExactBothSchemeSpec)

/-- ITS FALSE NEIGHBOUR: 'it returns false'. Refute it at one input. -/
def fnExactBothSchemeWrong : ChangeSpec := { name := "fnExactBothScheme", fn := fun _ => fun
  | [d1, d2] => { results := [.lit (.bool false)], args := [d1, d2] }
  | _ => none }
def FnExactBothSchemeWrongFalsely : Prop := fnExactBothSchemeRow.holds Try.pinned (OpenSpec.ofChange fnExactBothSchemeWrong)

/-- 'laws.FnExactChangeBlinds': WHATEVER THE INPUT: true; the input reads as it did. -/
def fnExactChangeBlindsSpec : ChangeSpec := { name := "fnExactChangeBlinds", fn := fun _ => fun
  | [d1, d2] => { results := [.lit (.bool true)], args := [d1, d2] }
  | _ => none }
def fnExactChangeBlindsRow : OpenClaim := { program := "ytnebkhelobpkpaa", sum := "abf8d500e7c068fb5cb61aeda9dba0e487f55c98523e3d8f6856fef08cfdc7b5", func := "loop.example/g01117/laws.FnExactChangeBlinds", spec := "fnExactChangeBlinds", unfollowed := true, recurses := true, apart := false }
def FnExactChangeBlindsSaid : Prop := fnExactChangeBlindsRow.holds Try.pinned (OpenSpec.ofChange fnExactChangeBlindsSpec)

/-- ITS FALSE NEIGHBOUR: 'it returns false'. Refute it at one input. -/
def fnExactChangeBlindsWrong : ChangeSpec := { name := "fnExactChangeBlinds", fn := fun _ => fun
  | [d1, d2] => { results := [.lit (.bool false)], args := [d1, d2] }
  | _ => none }
def FnExactChangeBlindsWrongFalsely : Prop := fnExactChangeBlindsRow.holds Try.pinned (OpenSpec.ofChange fnExactChangeBlindsWrong)

/- THE SECOND FORM. 'bulk': how many values and letters a reading holds, each counted each time it is reached (what is shared counts as often as it is met; a slice's spare places count too). A statement '..UptoSaid' is the law's where the arguments, and the package variables that the reading takes, are together of bulk at most 1048576: NARROWER than '..Said'. Prove '..Said' where nothing that the law and all that it calls make is longer than what came in: it says more and counts as full. Else prove '..UptoSaid'. A law counts once. -/
mutual
def uptoBulk {H : Type} : DataW H → Nat
  | .lit (.string bytes) => bytes.length + 1
  | .lit _ => 1
  | .nil => 1
  | .ptr d => uptoBulk d + 1
  | .slice elems spare => uptoBulkAll elems + uptoBulkAll spare + 1
  | .agg parts => uptoBulkAll parts + 1
  | .iface _ d => uptoBulk d + 1
  | .map entries => uptoBulkEntries entries + 1
  | .held _ => 1
def uptoBulkAll {H : Type} : List (DataW H) → Nat
  | [] => 0
  | d :: r => uptoBulk d + uptoBulkAll r
def uptoBulkEntries {H : Type} : List (Lit × DataW H) → Nat
  | [] => 0
  | x :: r => uptoBulkEntry x + uptoBulkEntries r
def uptoBulkEntry {H : Type} : Lit × DataW H → Nat
  | (.string bytes, d) => bytes.length + uptoBulk d + 1
  | (_, d) => uptoBulk d + 1
 end
def uptoSmall : (H : Type) → List (DataW H) → Bool := fun _ ds => decide (uptoBulkAll ds ≤ 1048576)
def OpenSpec.upto (s : _root_.Go.ChangeSpec) : _root_.Go.OpenSpec := { _root_.Go.OpenSpec.ofChange s with cond := some uptoSmall }

/-- 'laws.FnExactPutGate', WHERE WHAT IT READS IS OF BULK AT MOST 1048576: true; the input reads as it did. -/
def fnExactPutGateUptoRow : OpenClaim := { program := "ytnebkhelobpkpaa", sum := "abf8d500e7c068fb5cb61aeda9dba0e487f55c98523e3d8f6856fef08cfdc7b5", func := "loop.example/g01117/laws.FnExactPutGate", spec := "fnExactPutGate", unfollowed := true, recurses := true, loops := true, apart := false, narrowed := true }
def FnExactPutGateUptoSaid : Prop := fnExactPutGateUptoRow.holds Try.pinned (OpenSpec.upto fnExactPutGateSpec)

/-- 'laws.FnExactFamilyOfScheme', WHERE WHAT IT READS IS OF BULK AT MOST 1048576: true; the input reads as it did. -/
def fnExactFamilyOfSchemeUptoRow : OpenClaim := { program := "ytnebkhelobpkpaa", sum := "abf8d500e7c068fb5cb61aeda9dba0e487f55c98523e3d8f6856fef08cfdc7b5", func := "loop.example/g01117/laws.FnExactFamilyOfScheme", spec := "fnExactFamilyOfScheme", unfollowed := true, recurses := true, apart := false, narrowed := true }
def FnExactFamilyOfSchemeUptoSaid : Prop := fnExactFamilyOfSchemeUptoRow.holds Try.pinned (OpenSpec.upto fnExactFamilyOfSchemeSpec)

/-- 'laws.FnExactCompletion', WHERE WHAT IT READS IS OF BULK AT MOST 1048576: true; the input reads as it did. -/
def fnExactCompletionUptoRow : OpenClaim := { program := "ytnebkhelobpkpaa", sum := "abf8d500e7c068fb5cb61aeda9dba0e487f55c98523e3d8f6856fef08cfdc7b5", func := "loop.example/g01117/laws.FnExactCompletion", spec := "fnExactCompletion", unfollowed := true, recurses := true, apart := false, narrowed := true }
def FnExactCompletionUptoSaid : Prop := fnExactCompletionUptoRow.holds Try.pinned (OpenSpec.upto fnExactCompletionSpec)

/-- 'laws.FnExactDualScheme', WHERE WHAT IT READS IS OF BULK AT MOST 1048576: true; the input reads as it did. -/
def fnExactDualSchemeUptoRow : OpenClaim := { program := "ytnebkhelobpkpaa", sum := "abf8d500e7c068fb5cb61aeda9dba0e487f55c98523e3d8f6856fef08cfdc7b5", func := "loop.example/g01117/laws.FnExactDualScheme", spec := "fnExactDualScheme", unfollowed := true, recurses := true, apart := false, narrowed := true }
def FnExactDualSchemeUptoSaid : Prop := fnExactDualSchemeUptoRow.holds Try.pinned (OpenSpec.upto fnExactDualSchemeSpec)

/-- 'laws.FnExactEitherScheme', WHERE WHAT IT READS IS OF BULK AT MOST 1048576: true; the input reads as it did. -/
def fnExactEitherSchemeUptoRow : OpenClaim := { program := "ytnebkhelobpkpaa", sum := "abf8d500e7c068fb5cb61aeda9dba0e487f55c98523e3d8f6856fef08cfdc7b5", func := "loop.example/g01117/laws.FnExactEitherScheme", spec := "fnExactEitherScheme", apart := false, narrowed := true }
def FnExactEitherSchemeUptoSaid : Prop := fnExactEitherSchemeUptoRow.holds Try.pinned (OpenSpec.upto fnExactEitherSchemeSpec)

/-- 'laws.FnExactBothScheme', WHERE WHAT IT READS IS OF BULK AT MOST 1048576: true; the input reads as it did. -/
def fnExactBothSchemeUptoRow : OpenClaim := { program := "ytnebkhelobpkpaa", sum := "abf8d500e7c068fb5cb61aeda9dba0e487f55c98523e3d8f6856fef08cfdc7b5", func := "loop.example/g01117/laws.FnExactBothScheme", spec := "fnExactBothScheme", unfollowed := true, recurses := true, apart := false, narrowed := true }
def FnExactBothSchemeUptoSaid : Prop := fnExactBothSchemeUptoRow.holds Try.pinned (OpenSpec.upto fnExactBothSchemeSpec)

/-- 'laws.FnExactChangeBlinds', WHERE WHAT IT READS IS OF BULK AT MOST 1048576: true; the input reads as it did. -/
def fnExactChangeBlindsUptoRow : OpenClaim := { program := "ytnebkhelobpkpaa", sum := "abf8d500e7c068fb5cb61aeda9dba0e487f55c98523e3d8f6856fef08cfdc7b5", func := "loop.example/g01117/laws.FnExactChangeBlinds", spec := "fnExactChangeBlinds", unfollowed := true, recurses := true, apart := false, narrowed := true }
def FnExactChangeBlindsUptoSaid : Prop := fnExactChangeBlindsUptoRow.holds Try.pinned (OpenSpec.upto fnExactChangeBlindsSpec)

end Rows
end Go.Proofs.Ytnebkhelobpkpaa

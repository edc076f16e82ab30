/-
  NARROWER THAN 'FOR EVERY INPUT', by the rows' own cells (each row's printed sentence says how): FnExactDualGate: loops · FnExactTidyGate: loops · FnExactPutGate: loops · FnExactGateText: loops.
  DERIVED. THE GIVEN ROWS OF THIS SEAT. 5 by the template 'for every input the law returns true; each argument reads behind the call as it read before'; 0 by the template 'total and deterministic' (their statements: YtjhggglaglpgfaaTotals.lean).
  GIVEN WITH THE SEED: the statements are not yours to turn. If you find one false, say at which input.
  Laid BY PROGRAM, IN A SANDBOX (cutbox-rows.mjs): the forced cells as the released guide's own fill.sh prints them over the translation c57e5523a396d589… (all of the seat's roots in one cut). By AI agents, Wed Nov 11 2026. No macro, syntax, notation, axiom, sorry.
-/
import Derived.Test.YtjhggglaglpgfaaChecked
import GoSem.Claim
import GoSem.ClaimJoined
import GoSem.ClaimMapViews
import Derived.JoinedTies
import Derived.KernelRfl
namespace Go.Proofs.Ytjhggglaglpgfaa
/- THE CELL 'sum', in the pinned program and in every row, IS THE sha256 OF THE DUMP (.gsa) THAT YtjhggglaglpgfaaProg.lean LOADS. Nothing in Lean hashes anything: it is a label: what it is worth is what the hold of that sum in a sandbox is worth. -/
noncomputable def Try.pinned : Pinned := { name := "ytjhggglaglpgfaa", sum := "c57e5523a396d58964c5df6ef5b677271c3b1aa3004b26ccd4011c12af09c633", checked := Try.checked }
namespace Rows
def none {H : Type} : Left H := { results := [], args := [] }

/-- 'laws.FnExactDualGate': WHATEVER THE INPUT: true; the input reads as it did. -/
def fnExactDualGateSpec : ChangeSpec := { name := "fnExactDualGate", fn := fun _ => fun
  | [d1, d2] => { results := [.lit (.bool true)], args := [d1, d2] }
  | _ => none }
def fnExactDualGateRow : OpenClaim := { program := "ytjhggglaglpgfaa", sum := "c57e5523a396d58964c5df6ef5b677271c3b1aa3004b26ccd4011c12af09c633", func := "loop.example/g01117/laws.FnExactDualGate", spec := "fnExactDualGate", unfollowed := true, recurses := true, loops := true, apart := false }
def FnExactDualGateSaid : Prop := fnExactDualGateRow.holds Try.pinned (OpenSpec.ofChange fnExactDualGateSpec)

/-- ITS FALSE NEIGHBOUR: 'it returns false'. Refute it at one input. -/
def fnExactDualGateWrong : ChangeSpec := { name := "fnExactDualGate", fn := fun _ => fun
  | [d1, d2] => { results := [.lit (.bool false)], args := [d1, d2] }
  | _ => none }
def FnExactDualGateWrongFalsely : Prop := fnExactDualGateRow.holds Try.pinned (OpenSpec.ofChange fnExactDualGateWrong)

/-- 'laws.FnExactTidyGate': WHATEVER THE INPUT: true; the input reads as it did. -/
def fnExactTidyGateSpec : ChangeSpec := { name := "fnExactTidyGate", fn := fun _ => fun
  | [d1, d2] => { results := [.lit (.bool true)], args := [d1, d2] }
  | _ => none }
def fnExactTidyGateRow : OpenClaim := { program := "ytjhggglaglpgfaa", sum := "c57e5523a396d58964c5df6ef5b677271c3b1aa3004b26ccd4011c12af09c633", func := "loop.example/g01117/laws.FnExactTidyGate", spec := "fnExactTidyGate", unfollowed := true, recurses := true, loops := true, apart := false }
def FnExactTidyGateSaid : Prop := fnExactTidyGateRow.holds Try.pinned (OpenSpec.ofChange fnExactTidyGateSpec)

/-- ITS FALSE NEIGHBOUR: 'it returns false'. Refute it at one input. -/
def fnExactTidyGateWrong : ChangeSpec := { name := "fnExactTidyGate", fn := fun _ => fun
  | [d1, d2] => { results := [.lit (.bool false)], args := [d1, d2] }
  | _ => none }
def FnExactTidyGateWrongFalsely : Prop := fnExactTidyGateRow.holds Try.pinned (OpenSpec.ofChange fnExactTidyGateWrong)

/-- 'laws.FnExactPutGate': WHATEVER THE INPUT: true; the input reads as it did. -/
def fnExactPutGateSpec : ChangeSpec := { name := "fnExactPutGate", fn := fun _ => fun
  | [d1, d2, d3, d4] => { results := [.lit (.bool true)], args := [d1, d2, d3, d4] }
  | _ => none }
def fnExactPutGateRow : OpenClaim := { program := "ytjhggglaglpgfaa", sum := "c57e5523a396d58964c5df6ef5b677271c3b1aa3004b26ccd4011c12af09c633", func := "loop.example/g01117/laws.FnExactPutGate", spec := "fnExactPutGate", unfollowed := true, recurses := true, loops := true, apart := false }
def FnExactPutGateSaid : Prop := fnExactPutGateRow.holds Try.pinned (OpenSpec.ofChange fnExactPutGateSpec)

/-- ITS FALSE NEIGHBOUR: 'it returns false'. Refute it at one input. -/
def fnExactPutGateWrong : ChangeSpec := { name := "fnExactPutGate", fn := fun _ => fun
  | [d1, d2, d3, d4] => { results := [.lit (.bool false)], args := [d1, d2, d3, d4] }
  | _ => none }
def FnExactPutGateWrongFalsely : Prop := fnExactPutGateRow.holds Try.pinned (OpenSpec.ofChange fnExactPutGateWrong)

/-- 'laws.FnExactLevelGate': WHATEVER THE INPUT: true; the input reads as it did. -/
def fnExactLevelGateSpec : ChangeSpec := { name := "fnExactLevelGate", fn := fun _ => fun
  | [d1, d2] => { results := [.lit (.bool true)], args := [d1, d2] }
  | _ => none }
def fnExactLevelGateRow : OpenClaim := { program := "ytjhggglaglpgfaa", sum := "c57e5523a396d58964c5df6ef5b677271c3b1aa3004b26ccd4011c12af09c633", func := "loop.example/g01117/laws.FnExactLevelGate", spec := "fnExactLevelGate", unfollowed := true, recurses := true, apart := false }
def FnExactLevelGateSaid : Prop := fnExactLevelGateRow.holds Try.pinned (OpenSpec.ofChange fnExactLevelGateSpec)

/-- ITS FALSE NEIGHBOUR: 'it returns false'. Refute it at one input. -/
def fnExactLevelGateWrong : ChangeSpec := { name := "fnExactLevelGate", fn := fun _ => fun
  | [d1, d2] => { results := [.lit (.bool false)], args := [d1, d2] }
  | _ => none }
def FnExactLevelGateWrongFalsely : Prop := fnExactLevelGateRow.holds Try.pinned (OpenSpec.ofChange fnExactLevelGateWrong)

/-- 'laws.FnExactGateText': WHATEVER THE INPUT: true; the input reads as it did. -/
def fnExactGateTextSpec : ChangeSpec := { name := "fnExactGateText", fn := fun _ => fun
  | [d1, d2] => { results := [.lit (.bool true)], args := [d1, d2] }
  | _ => none }
def fnExactGateTextRow : OpenClaim := { program := "ytjhggglaglpgfaa", sum := "c57e5523a396d58964c5df6ef5b677271c3b1aa3004b26ccd4011c12af09c633", func := "loop.example/g01117/laws.FnExactGateText", spec := "fnExactGateText", unfollowed := true, recurses := true, loops := true, apart := false }
def FnExactGateTextSaid : Prop := fnExactGateTextRow.holds Try.pinned (OpenSpec.ofChange fnExactGateTextSpec)

/-- ITS FALSE NEIGHBOUR: 'it returns false'. Refute it at one input. -/
def fnExactGateTextWrong : ChangeSpec := { name := "fnExactGateText", fn := fun _ => fun
  | [d1, d2] => { results := [.lit (.bool false)], args := [d1, d2] }
  | _ => none }
def FnExactGateTextWrongFalsely : Prop := fnExactGateTextRow.holds Try.pinned (OpenSpec.ofChange fnExactGateTextWrong)

/- THE SECOND FORM. 'bulk': how many values and letters a reading holds, each counted each time it is reached (what is shared counts as often as it is met; a slice's spare places count too). A statement '..UptoSaid' is the law's where the arguments, and the package variables that the reading takes, are together of bulk at most 1048576: NARROWER than '..Said'. Prove '..Said' where nothing that the law and all that it calls make is longer than what came in: it says more and counts as full. Else prove '..UptoSaid'. A law counts once. -/
mutual
def uptoBulk {H : Type} : DataW H → Nat
  | .lit (.string bytes) => bytes.length + 1
  | .lit _ => 1
  | .nil => 1
  | .ptr d => uptoBulk d + 1
  | .slice elems spare => uptoBulkAll elems + uptoBulkAll spare + 1
  | .agg parts => uptoBulkAll parts + 1
  | .iface _ d => uptoBulk d + 1
  | .map entries => uptoBulkEntries entries + 1
  | .held _ => 1
def uptoBulkAll {H : Type} : List (DataW H) → Nat
  | [] => 0
  | d :: r => uptoBulk d + uptoBulkAll r
def uptoBulkEntries {H : Type} : List (Lit × DataW H) → Nat
  | [] => 0
  | x :: r => uptoBulkEntry x + uptoBulkEntries r
def uptoBulkEntry {H : Type} : Lit × DataW H → Nat
  | (.string bytes, d) => bytes.length + uptoBulk d + 1
  | (_, d) => uptoBulk d + 1
 end
def uptoSmall : (H : Type) → List (DataW H) → Bool := fun _ ds => decide (uptoBulkAll ds ≤ 1048576)
def OpenSpec.upto (s : _root_.Go.ChangeSpec) : _root_.Go.OpenSpec := { _root_.Go.OpenSpec.ofChange s with cond := some uptoSmall }

/-- 'laws.FnExactDualGate', WHERE WHAT IT READS IS OF BULK AT MOST 1048576: true; the input reads as it did. -/
def fnExactDualGateUptoRow : OpenClaim := { program := "ytjhggglaglpgfaa", sum := "c57e5523a396d58964c5df6ef5b677271c3b1aa3004b26ccd4011c12af09c633", func := "loop.example/g01117/laws.FnExactDualGate", spec := "fnExactDualGate", unfollowed := true, recurses := true, loops := true, apart := false, narrowed := true }
def FnExactDualGateUptoSaid : Prop := fnExactDualGateUptoRow.holds Try.pinned (OpenSpec.upto fnExactDualGateSpec)

/-- 'laws.FnExactTidyGate', WHERE WHAT IT READS IS OF BULK AT MOST 1048576: true; the input reads as it did. -/
def fnExactTidyGateUptoRow : OpenClaim := { program := "ytjhggglaglpgfaa", sum := "c57e5523a396d58964c5df6ef5b677271c3b1aa3004b26ccd4011c12af09c633", func := "loop.example/g01117/laws.FnExactTidyGate", spec := "fnExactTidyGate", unfollowed := true, recurses := true, loops := true, apart := false, narrowed := true }
def FnExactTidyGateUptoSaid : Prop := fnExactTidyGateUptoRow.holds Try.pinned (OpenSpec.upto fnExactTidyGateSpec)

/-- 'laws.FnExactPutGate', WHERE WHAT IT READS IS OF BULK AT MOST 1048576: true; the input reads as it did. -/
def fnExactPutGateUptoRow : OpenClaim := { program := "ytjhggglaglpgfaa", sum := "c57e5523a396d58964c5df6ef5b677271c3b1aa3004b26ccd4011c12af09c633", func := "loop.example/g01117/laws.FnExactPutGate", spec := "fnExactPutGate", unfollowed := true, recurses := true, loops := true, apart := false, narrowed := true }
def FnExactPutGateUptoSaid : Prop := fnExactPutGateUptoRow.holds Try.pinned (OpenSpec.upto fnExactPutGateSpec)

/-- 'laws.FnExactLevelGate', WHERE WHAT IT READS IS OF BULK AT MOST 1048576: true; the input reads as it did. -/
def fnExactLevelGateUptoRow : OpenClaim := { program := "ytjhggglaglpgfaa", sum := "c57e5523a396d58964c5df6ef5b677271c3b1aa3004b26ccd4011c12af09c633", func := "loop.example/g01117/laws.FnExactLevelGate", spec := "fnExactLevelGate", unfollowed := true, recurses := true, apart := false, narrowed := true }
def FnExactLevelGateUptoSaid : Prop := fnExactLevelGateUptoRow.holds Try.pinned (OpenSpec.upto fnExactLevelGateSpec)

/-- 'laws.FnExactGateText', WHERE WHAT IT READS IS OF BULK AT MOST 1048576: true; the input reads as it did. -/
def fnExactGateTextUptoRow : OpenClaim := { program := "ytjhggglaglpgfaa", sum := "c57e5523a396d58964c5df6ef5b677271c3b1aa3004b26ccd4011c12af09c633", func := "loop.example/g01117/laws.FnExactGateText", spec := "fnExactGateText", unfollowed := true, recurses := true, loops := true, apart := false, narrowed := true }
def FnExactGateTextUptoSaid : Prop := fnExactGateTextUptoRow.holds Try.pinned (OpenSpec.upto fnExactGateTextSpec)

end Rows
end Go.Proofs.Ytjhggglaglpgfaa

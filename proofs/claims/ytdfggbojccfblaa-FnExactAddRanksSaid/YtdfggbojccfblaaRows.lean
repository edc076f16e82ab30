/-
  No cell of these rows narrows 'for every input' (looked for: loops, veiled, ifaces, maps, wideKeys, modest, calm, conditions, laid).
  DERIVED. THE GIVEN ROWS OF THIS SEAT. 7 by the template 'for every input the law returns true; each argument reads behind the call as it read before'; 0 by the template 'total and deterministic' (their statements: YtdfggbojccfblaaTotals.lean).
  GIVEN WITH THE SEED: the statements are not yours to turn. If you find one false, say at which input.
  Laid BY PROGRAM, IN A SANDBOX (cutbox-rows.mjs): the forced cells as the released guide's own fill.sh prints them over the translation a012d4f9b2a9ae00… (all of the seat's roots in one cut). By AI agents, Wed Nov 11 2026. No macro, syntax, notation, axiom, sorry.
-/
import Derived.Test.YtdfggbojccfblaaChecked
import GoSem.Claim
import GoSem.ClaimJoined
import GoSem.ClaimMapViews
import Derived.JoinedTies
import Derived.KernelRfl
namespace Go.Proofs.Ytdfggbojccfblaa
/- THE CELL 'sum', in the pinned program and in every row, IS THE sha256 OF THE DUMP (.gsa) THAT YtdfggbojccfblaaProg.lean LOADS. Nothing in Lean hashes anything: it is a label: what it is worth is what the hold of that sum in a sandbox is worth. -/
noncomputable def Try.pinned : Pinned := { name := "ytdfggbojccfblaa", sum := "a012d4f9b2a9ae00da2af2c30da989e80c8166bec80d03df5a0c42aba98f35c8", checked := Try.checked }
namespace Rows
def none {H : Type} : Left H := { results := [], args := [] }

/-- 'laws.FnExactValidRanks': WHATEVER THE INPUT: true; the input reads as it did. -/
def fnExactValidRanksSpec : ChangeSpec := { name := "fnExactValidRanks", fn := fun _ => fun
  | [d] => { results := [.lit (.bool true)], args := [d] }
  | _ => none }
def fnExactValidRanksRow : OpenClaim := { program := "ytdfggbojccfblaa", sum := "a012d4f9b2a9ae00da2af2c30da989e80c8166bec80d03df5a0c42aba98f35c8", func := "loop.example/g01117/laws.FnExactValidRanks", spec := "fnExactValidRanks", unfollowed := true, recurses := true, apart := false }
def FnExactValidRanksSaid : Prop := fnExactValidRanksRow.holds Try.pinned (OpenSpec.ofChange fnExactValidRanksSpec)

/-- ITS FALSE NEIGHBOUR: 'it returns false'. Refute it at one input. -/
def fnExactValidRanksWrong : ChangeSpec := { name := "fnExactValidRanks", fn := fun _ => fun
  | [d] => { results := [.lit (.bool false)], args := [d] }
  | _ => none }
def FnExactValidRanksWrongFalsely : Prop := fnExactValidRanksRow.holds Try.pinned (OpenSpec.ofChange fnExactValidRanksWrong)

/-- 'laws.FnExactSameRanks': WHATEVER THE INPUT: true; the input reads as it did. -/
def fnExactSameRanksSpec : ChangeSpec := { name := "fnExactSameRanks", fn := fun _ => fun
  | [d1, d2] => { results := [.lit (.bool true)], args := [d1, d2] }
  | _ => none }
def fnExactSameRanksRow : OpenClaim := { program := "ytdfggbojccfblaa", sum := "a012d4f9b2a9ae00da2af2c30da989e80c8166bec80d03df5a0c42aba98f35c8", func := "loop.example/g01117/laws.FnExactSameRanks", spec := "fnExactSameRanks", apart := false }
def FnExactSameRanksSaid : Prop := fnExactSameRanksRow.holds Try.pinned (OpenSpec.ofChange fnExactSameRanksSpec)

/-- ITS FALSE NEIGHBOUR: 'it returns false'. Refute it at one input. -/
def fnExactSameRanksWrong : ChangeSpec := { name := "fnExactSameRanks", fn := fun _ => fun
  | [d1, d2] => { results := [.lit (.bool false)], args := [d1, d2] }
  | _ => none }
def FnExactSameRanksWrongFalsely : Prop := fnExactSameRanksRow.holds Try.pinned (OpenSpec.ofChange fnExactSameRanksWrong)

/-- 'laws.FnExactRankAt': WHATEVER THE INPUT: true; the input reads as it did. -/
def fnExactRankAtSpec : ChangeSpec := { name := "fnExactRankAt", fn := fun _ => fun
  | [d1, d2] => { results := [.lit (.bool true)], args := [d1, d2] }
  | _ => none }
def fnExactRankAtRow : OpenClaim := { program := "ytdfggbojccfblaa", sum := "a012d4f9b2a9ae00da2af2c30da989e80c8166bec80d03df5a0c42aba98f35c8", func := "loop.example/g01117/laws.FnExactRankAt", spec := "fnExactRankAt", unfollowed := true, recurses := true, apart := false }
def FnExactRankAtSaid : Prop := fnExactRankAtRow.holds Try.pinned (OpenSpec.ofChange fnExactRankAtSpec)

/-- ITS FALSE NEIGHBOUR: 'it returns false'. Refute it at one input. -/
def fnExactRankAtWrong : ChangeSpec := { name := "fnExactRankAt", fn := fun _ => fun
  | [d1, d2] => { results := [.lit (.bool false)], args := [d1, d2] }
  | _ => none }
def FnExactRankAtWrongFalsely : Prop := fnExactRankAtRow.holds Try.pinned (OpenSpec.ofChange fnExactRankAtWrong)

/-- 'laws.FnExactRatioOf': WHATEVER THE INPUT: true; the input reads as it did. -/
def fnExactRatioOfSpec : ChangeSpec := { name := "fnExactRatioOf", fn := fun _ => fun
  | [d] => { results := [.lit (.bool true)], args := [d] }
  | _ => none }
def fnExactRatioOfRow : OpenClaim := { program := "ytdfggbojccfblaa", sum := "a012d4f9b2a9ae00da2af2c30da989e80c8166bec80d03df5a0c42aba98f35c8", func := "loop.example/g01117/laws.FnExactRatioOf", spec := "fnExactRatioOf", unfollowed := true, recurses := true, apart := false }
def FnExactRatioOfSaid : Prop := fnExactRatioOfRow.holds Try.pinned (OpenSpec.ofChange fnExactRatioOfSpec)

/-- ITS FALSE NEIGHBOUR: 'it returns false'. Refute it at one input. -/
def fnExactRatioOfWrong : ChangeSpec := { name := "fnExactRatioOf", fn := fun _ => fun
  | [d] => { results := [.lit (.bool false)], args := [d] }
  | _ => none }
def FnExactRatioOfWrongFalsely : Prop := fnExactRatioOfRow.holds Try.pinned (OpenSpec.ofChange fnExactRatioOfWrong)

/-- 'laws.FnExactAddRanks': WHATEVER THE INPUT: true; the input reads as it did. -/
def fnExactAddRanksSpec : ChangeSpec := { name := "fnExactAddRanks", fn := fun _ => fun
  | [d1, d2] => { results := [.lit (.bool true)], args := [d1, d2] }
  | _ => none }
def fnExactAddRanksRow : OpenClaim := { program := "ytdfggbojccfblaa", sum := "a012d4f9b2a9ae00da2af2c30da989e80c8166bec80d03df5a0c42aba98f35c8", func := "loop.example/g01117/laws.FnExactAddRanks", spec := "fnExactAddRanks", unfollowed := true, recurses := true, apart := false }
def FnExactAddRanksSaid : Prop := fnExactAddRanksRow.holds Try.pinned (OpenSpec.ofChange fnExactAddRanksSpec)

/-- ITS FALSE NEIGHBOUR: 'it returns false'. Refute it at one input. -/
def fnExactAddRanksWrong : ChangeSpec := { name := "fnExactAddRanks", fn := fun _ => fun
  | [d1, d2] => { results := [.lit (.bool false)], args := [d1, d2] }
  | _ => none }
def FnExactAddRanksWrongFalsely : Prop := fnExactAddRanksRow.holds Try.pinned (OpenSpec.ofChange fnExactAddRanksWrong)

/-- 'laws.FnExactCutRanks': WHATEVER THE INPUT: true; the input reads as it did. -/
def fnExactCutRanksSpec : ChangeSpec := { name := "fnExactCutRanks", fn := fun _ => fun
  | [d1, d2] => { results := [.lit (.bool true)], args := [d1, d2] }
  | _ => none }
def fnExactCutRanksRow : OpenClaim := { program := "ytdfggbojccfblaa", sum := "a012d4f9b2a9ae00da2af2c30da989e80c8166bec80d03df5a0c42aba98f35c8", func := "loop.example/g01117/laws.FnExactCutRanks", spec := "fnExactCutRanks", unfollowed := true, recurses := true, apart := false }
def FnExactCutRanksSaid : Prop := fnExactCutRanksRow.holds Try.pinned (OpenSpec.ofChange fnExactCutRanksSpec)

/-- ITS FALSE NEIGHBOUR: 'it returns false'. Refute it at one input. -/
def fnExactCutRanksWrong : ChangeSpec := { name := "fnExactCutRanks", fn := fun _ => fun
  | [d1, d2] => { results := [.lit (.bool false)], args := [d1, d2] }
  | _ => none }
def FnExactCutRanksWrongFalsely : Prop := fnExactCutRanksRow.holds Try.pinned (OpenSpec.ofChange fnExactCutRanksWrong)

/-- 'laws.FnExactRanksFamily': WHATEVER THE INPUT: true; the input reads as it did. -/
def fnExactRanksFamilySpec : ChangeSpec := { name := "fnExactRanksFamily", fn := fun _ => fun
  | [d1, d2] => { results := [.lit (.bool true)], args := [d1, d2] }
  | _ => none }
def fnExactRanksFamilyRow : OpenClaim := { program := "ytdfggbojccfblaa", sum := "a012d4f9b2a9ae00da2af2c30da989e80c8166bec80d03df5a0c42aba98f35c8", func := "loop.example/g01117/laws.FnExactRanksFamily", spec := "fnExactRanksFamily", unfollowed := true, recurses := true, apart := false }
def FnExactRanksFamilySaid : Prop := fnExactRanksFamilyRow.holds Try.pinned (OpenSpec.ofChange fnExactRanksFamilySpec)

/-- ITS FALSE NEIGHBOUR: 'it returns false'. Refute it at one input. -/
def fnExactRanksFamilyWrong : ChangeSpec := { name := "fnExactRanksFamily", fn := fun _ => fun
  | [d1, d2] => { results := [.lit (.bool false)], args := [d1, d2] }
  | _ => none }
def FnExactRanksFamilyWrongFalsely : Prop := fnExactRanksFamilyRow.holds Try.pinned (OpenSpec.ofChange fnExactRanksFamilyWrong)

/- THE SECOND FORM. 'bulk': how many values and letters a reading holds, each counted each time it is reached (what is shared counts as often as it is met; a slice's spare places count too). A statement '..UptoSaid' is the law's where the arguments, and the package variables that the reading takes, are together of bulk at most 1048576: NARROWER than '..Said'. Prove '..Said' where nothing that the law and all that it calls make is longer than what came in: it says more and counts as full. Else prove '..UptoSaid'. A law counts once. -/
mutual
def uptoBulk {H : Type} : DataW H → Nat
  | .lit (.string bytes) => bytes.length + 1
  | .lit _ => 1
  | .nil => 1
  | .ptr d => uptoBulk d + 1
  | .slice elems spare => uptoBulkAll elems + uptoBulkAll spare + 1
  | .agg parts => uptoBulkAll parts + 1
  | .iface _ d => uptoBulk d + 1
  | .map entries => uptoBulkEntries entries + 1
  | .held _ => 1
def uptoBulkAll {H : Type} : List (DataW H) → Nat
  | [] => 0
  | d :: r => uptoBulk d + uptoBulkAll r
def uptoBulkEntries {H : Type} : List (Lit × DataW H) → Nat
  | [] => 0
  | x :: r => uptoBulkEntry x + uptoBulkEntries r
def uptoBulkEntry {H : Type} : Lit × DataW H → Nat
  | (.string bytes, d) => bytes.length + uptoBulk d + 1
  | (_, d) => uptoBulk d + 1
 end
def uptoSmall : (H : Type) → List (DataW H) → Bool := fun _ ds => decide (uptoBulkAll ds ≤ 1048576)
def OpenSpec.upto (s : _root_.Go.ChangeSpec) : _root_.Go.OpenSpec := { _root_.Go.OpenSpec.ofChange s with cond := some uptoSmall }

/-- 'laws.FnExactValidRanks', WHERE WHAT IT READS IS OF BULK AT MOST 1048576: true; the input reads as it did. -/
def fnExactValidRanksUptoRow : OpenClaim := { program := "ytdfggbojccfblaa", sum := "a012d4f9b2a9ae00da2af2c30da989e80c8166bec80d03df5a0c42aba98f35c8", func := "loop.example/g01117/laws.FnExactValidRanks", spec := "fnExactValidRanks", unfollowed := true, recurses := true, apart := false, narrowed := true }
def FnExactValidRanksUptoSaid : Prop := fnExactValidRanksUptoRow.holds Try.pinned (OpenSpec.upto fnExactValidRanksSpec)

/-- 'laws.FnExactSameRanks', WHERE WHAT IT READS IS OF BULK AT MOST 1048576: true; the input reads as it did. -/
def fnExactSameRanksUptoRow : OpenClaim := { program := "ytdfggbojccfblaa", sum := "a012d4f9b2a9ae00da2af2c30da989e80c8166bec80d03df5a0c42aba98f35c8", func := "loop.example/g01117/laws.FnExactSameRanks", spec := "fnExactSameRanks", apart := false, narrowed := true }
def FnExactSameRanksUptoSaid : Prop := fnExactSameRanksUptoRow.holds Try.pinned (OpenSpec.upto fnExactSameRanksSpec)

/-- 'laws.FnExactRankAt', WHERE WHAT IT READS IS OF BULK AT MOST 1048576: true; the input reads as it did. -/
def fnExactRankAtUptoRow : OpenClaim := { program := "ytdfggbojccfblaa", sum := "a012d4f9b2a9ae00da2af2c30da989e80c8166bec80d03df5a0c42aba98f35c8", func := "loop.example/g01117/laws.FnExactRankAt", spec := "fnExactRankAt", unfollowed := true, recurses := true, apart := false, narrowed := true }
def FnExactRankAtUptoSaid : Prop := fnExactRankAtUptoRow.holds Try.pinned (OpenSpec.upto fnExactRankAtSpec)

/-- 'laws.FnExactRatioOf', WHERE WHAT IT READS IS OF BULK AT MOST 1048576: true; the input reads as it did. -/
def fnExactRatioOfUptoRow : OpenClaim := { program := "ytdfggbojccfblaa", sum := "a012d4f9b2a9ae00da2af2c30da989e80c8166bec80d03df5a0c42aba98f35c8", func := "loop.example/g01117/laws.FnExactRatioOf", spec := "fnExactRatioOf", unfollowed := true, recurses := true, apart := false, narrowed := true }
def FnExactRatioOfUptoSaid : Prop := fnExactRatioOfUptoRow.holds Try.pinned (OpenSpec.upto fnExactRatioOfSpec)

/-- 'laws.FnExactAddRanks', WHERE WHAT IT READS IS OF BULK AT MOST 1048576: true; the input reads as it did. -/
def fnExactAddRanksUptoRow : OpenClaim := { program := "ytdfggbojccfblaa", sum := "a012d4f9b2a9ae00da2af2c30da989e80c8166bec80d03df5a0c42aba98f35c8", func := "loop.example/g01117/laws.FnExactAddRanks", spec := "fnExactAddRanks", unfollowed := true, recurses := true, apart := false, narrowed := true }
def FnExactAddRanksUptoSaid : Prop := fnExactAddRanksUptoRow.holds Try.pinned (OpenSpec.upto fnExactAddRanksSpec)

/-- 'laws.FnExactCutRanks', WHERE WHAT IT READS IS OF BULK AT MOST 1048576: true; the input reads as it did. -/
def fnExactCutRanksUptoRow : OpenClaim := { program := "ytdfggbojccfblaa", sum := "a012d4f9b2a9ae00da2af2c30da989e80c8166bec80d03df5a0c42aba98f35c8", func := "loop.example/g01117/laws.FnExactCutRanks", spec := "fnExactCutRanks", unfollowed := true, recurses := true, apart := false, narrowed := true }
def FnExactCutRanksUptoSaid : Prop := fnExactCutRanksUptoRow.holds Try.pinned (OpenSpec.upto fnExactCutRanksSpec)

/-- 'laws.FnExactRanksFamily', WHERE WHAT IT READS IS OF BULK AT MOST 1048576: true; the input reads as it did. -/
def fnExactRanksFamilyUptoRow : OpenClaim := { program := "ytdfggbojccfblaa", sum := "a012d4f9b2a9ae00da2af2c30da989e80c8166bec80d03df5a0c42aba98f35c8", func := "loop.example/g01117/laws.FnExactRanksFamily", spec := "fnExactRanksFamily", unfollowed := true, recurses := true, apart := false, narrowed := true }
def FnExactRanksFamilyUptoSaid : Prop := fnExactRanksFamilyUptoRow.holds Try.pinned (OpenSpec.upto fnExactRanksFamilySpec)

end Rows
end Go.Proofs.Ytdfggbojccfblaa

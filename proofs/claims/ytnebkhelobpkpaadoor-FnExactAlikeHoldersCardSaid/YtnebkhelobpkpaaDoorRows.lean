/-
  NARROWER THAN 'FOR EVERY INPUT', by the rows' own cells (each row's printed sentence says how): FnExactAlikeHolders: laid · FnExactDualRanks: laid · FnExactValidDeal: ifaces, laid · FnExactDealValues: ifaces, laid · FnExactDealTags: ifaces, laid.
  DERIVED. THE GIVEN ROWS OF THIS SEAT. 5 by the template 'for every input the law returns true; each argument reads behind the call as it read before'; 0 by the template 'total and deterministic' (their statements: YtnebkhelobpkpaaDoorTotals.lean).
  GIVEN WITH THE SEED: the statements are not yours to turn. If you find one false, say at which input.
  Laid BY PROGRAM, IN A SANDBOX (cutbox-rows.mjs): the forced cells as the released guide's own fill.sh prints them over the translation fb06b2417da3597c… (all of the seat's roots in one cut). By AI agents, Wed Nov 11 2026. No macro, syntax, notation, axiom, sorry.
-/
import Derived.Test.YtnebkhelobpkpaaDoorChecked
import GoSem.Claim
import GoSem.ClaimJoined
import GoSem.ClaimMapViews
import Derived.JoinedTies
import Derived.KernelRfl
namespace Go.Proofs.YtnebkhelobpkpaaDoor
/- THE CELL 'sum', in the pinned program and in every row, IS THE sha256 OF THE DUMP (.gsa) THAT YtnebkhelobpkpaaDoorProg.lean LOADS. Nothing in Lean hashes anything: it is a label: what it is worth is what the hold of that sum in a sandbox is worth. -/
noncomputable def Tryd.pinned : Pinned := { name := "ytnebkhelobpkpaadoor", sum := "fb06b2417da3597cb81d4e1e9bb52e19ba239756811d571ac0521ddad4c6aa2f", checked := Tryd.checked }
namespace Rows
def none {H : Type} : Left H := { results := [], args := [] }

/- WHAT THE LISTED PACKAGE-LEVEL VARIABLES READ AS WHEN THE CALL BEGINS. Each datum BY PROGRAM (the guide's laid-datum.mjs) off the statement by which the dump's own 'gosem.cut.vars' lays the variable. In a bare row this is a premise. The card (YtnebkhelobpkpaaDoorCards.lean) ties it to the program's text. -/
def laid_math_bits_deBruijn32tab {H : Type} : DataW H := .agg [.lit (.int .u8 0), .lit (.int .u8 1), .lit (.int .u8 28), .lit (.int .u8 2), .lit (.int .u8 29), .lit (.int .u8 14), .lit (.int .u8 24), .lit (.int .u8 3), .lit (.int .u8 30), .lit (.int .u8 22), .lit (.int .u8 20), .lit (.int .u8 15), .lit (.int .u8 25), .lit (.int .u8 17), .lit (.int .u8 4), .lit (.int .u8 8), .lit (.int .u8 31), .lit (.int .u8 27), .lit (.int .u8 13), .lit (.int .u8 23), .lit (.int .u8 21), .lit (.int .u8 19), .lit (.int .u8 16), .lit (.int .u8 7), .lit (.int .u8 26), .lit (.int .u8 12), .lit (.int .u8 18), .lit (.int .u8 6), .lit (.int .u8 11), .lit (.int .u8 5), .lit (.int .u8 10), .lit (.int .u8 9)]
def laid_math_bits_deBruijn64tab {H : Type} : DataW H := .agg [.lit (.int .u8 0), .lit (.int .u8 1), .lit (.int .u8 56), .lit (.int .u8 2), .lit (.int .u8 57), .lit (.int .u8 49), .lit (.int .u8 28), .lit (.int .u8 3), .lit (.int .u8 61), .lit (.int .u8 58), .lit (.int .u8 42), .lit (.int .u8 50), .lit (.int .u8 38), .lit (.int .u8 29), .lit (.int .u8 17), .lit (.int .u8 4), .lit (.int .u8 62), .lit (.int .u8 47), .lit (.int .u8 59), .lit (.int .u8 36), .lit (.int .u8 45), .lit (.int .u8 43), .lit (.int .u8 51), .lit (.int .u8 22), .lit (.int .u8 53), .lit (.int .u8 39), .lit (.int .u8 33), .lit (.int .u8 30), .lit (.int .u8 24), .lit (.int .u8 18), .lit (.int .u8 12), .lit (.int .u8 5), .lit (.int .u8 63), .lit (.int .u8 55), .lit (.int .u8 48), .lit (.int .u8 27), .lit (.int .u8 60), .lit (.int .u8 41), .lit (.int .u8 37), .lit (.int .u8 16), .lit (.int .u8 46), .lit (.int .u8 35), .lit (.int .u8 44), .lit (.int .u8 21), .lit (.int .u8 52), .lit (.int .u8 32), .lit (.int .u8 23), .lit (.int .u8 11), .lit (.int .u8 54), .lit (.int .u8 26), .lit (.int .u8 40), .lit (.int .u8 15), .lit (.int .u8 34), .lit (.int .u8 20), .lit (.int .u8 31), .lit (.int .u8 10), .lit (.int .u8 25), .lit (.int .u8 14), .lit (.int .u8 19), .lit (.int .u8 9), .lit (.int .u8 13), .lit (.int .u8 8), .lit (.int .u8 7), .lit (.int .u8 6)]
def laid_internal_strconv_uint64pow10 {H : Type} : DataW H := .agg [.lit (.int .u64 1), .lit (.int .u64 10), .lit (.int .u64 100), .lit (.int .u64 1000), .lit (.int .u64 10000), .lit (.int .u64 100000), .lit (.int .u64 1000000), .lit (.int .u64 10000000), .lit (.int .u64 100000000), .lit (.int .u64 1000000000), .lit (.int .u64 10000000000), .lit (.int .u64 100000000000), .lit (.int .u64 1000000000000), .lit (.int .u64 10000000000000), .lit (.int .u64 100000000000000), .lit (.int .u64 1000000000000000), .lit (.int .u64 10000000000000000), .lit (.int .u64 100000000000000000), .lit (.int .u64 1000000000000000000), .lit (.int .u64 10000000000000000000)]
def laid_loop_example_g01117_impl_errRange {H : Type} : DataW H := .iface "*errors.errorString" (.ptr (.agg [.lit (.string [97, 32, 110, 117, 109, 98, 101, 114, 32, 111, 114, 32, 97, 32, 108, 105, 115, 116, 32, 105, 115, 32, 110, 111, 116, 32, 119, 104, 97, 116, 32, 105, 116, 32, 104, 97, 115, 32, 116, 111, 32, 98, 101])]))

/-- 'laws.FnExactAlikeHolders': WHATEVER THE INPUT: true; the input reads as it did. -/
def fnExactAlikeHoldersSpec : ChangeSpec := { name := "fnExactAlikeHolders", fn := fun _ => fun
  | [d] => { results := [.lit (.bool true)], args := [d] }
  | _ => none }
def fnExactAlikeHoldersRow : OpenClaim := { program := "ytnebkhelobpkpaadoor", sum := "fb06b2417da3597cb81d4e1e9bb52e19ba239756811d571ac0521ddad4c6aa2f", func := "loop.example/g01117/laws.FnExactAlikeHolders", spec := "fnExactAlikeHolders", inPlace := ["internal/abi.NoEscape"], unfollowed := true, recurses := true, named := ["internal/strconv.uint64pow10", "math/bits.deBruijn32tab", "math/bits.deBruijn64tab"], apart := false, laid := [("math/bits.deBruijn32tab", laid_math_bits_deBruijn32tab), ("math/bits.deBruijn64tab", laid_math_bits_deBruijn64tab), ("internal/strconv.uint64pow10", laid_internal_strconv_uint64pow10)] }
def FnExactAlikeHoldersSaid : Prop := fnExactAlikeHoldersRow.holds Tryd.pinned (OpenSpec.ofChange fnExactAlikeHoldersSpec)

/-- ITS FALSE NEIGHBOUR: 'it returns false'. Refute it at one input. -/
def fnExactAlikeHoldersWrong : ChangeSpec := { name := "fnExactAlikeHolders", fn := fun _ => fun
  | [d] => { results := [.lit (.bool false)], args := [d] }
  | _ => none }
def FnExactAlikeHoldersWrongFalsely : Prop := fnExactAlikeHoldersRow.holds Tryd.pinned (OpenSpec.ofChange fnExactAlikeHoldersWrong)

/-- 'laws.FnExactDualRanks': WHATEVER THE INPUT: true; the input reads as it did. -/
def fnExactDualRanksSpec : ChangeSpec := { name := "fnExactDualRanks", fn := fun _ => fun
  | [d1, d2] => { results := [.lit (.bool true)], args := [d1, d2] }
  | _ => none }
def fnExactDualRanksRow : OpenClaim := { program := "ytnebkhelobpkpaadoor", sum := "fb06b2417da3597cb81d4e1e9bb52e19ba239756811d571ac0521ddad4c6aa2f", func := "loop.example/g01117/laws.FnExactDualRanks", spec := "fnExactDualRanks", inPlace := ["internal/abi.NoEscape"], unfollowed := true, recurses := true, named := ["internal/strconv.uint64pow10", "math/bits.deBruijn32tab", "math/bits.deBruijn64tab"], apart := false, laid := [("math/bits.deBruijn32tab", laid_math_bits_deBruijn32tab), ("math/bits.deBruijn64tab", laid_math_bits_deBruijn64tab), ("internal/strconv.uint64pow10", laid_internal_strconv_uint64pow10)] }
def FnExactDualRanksSaid : Prop := fnExactDualRanksRow.holds Tryd.pinned (OpenSpec.ofChange fnExactDualRanksSpec)

/-- ITS FALSE NEIGHBOUR: 'it returns false'. Refute it at one input. -/
def fnExactDualRanksWrong : ChangeSpec := { name := "fnExactDualRanks", fn := fun _ => fun
  | [d1, d2] => { results := [.lit (.bool false)], args := [d1, d2] }
  | _ => none }
def FnExactDualRanksWrongFalsely : Prop := fnExactDualRanksRow.holds Tryd.pinned (OpenSpec.ofChange fnExactDualRanksWrong)

/-- 'laws.FnExactValidDeal': WHATEVER THE INPUT: true; the input reads as it did. -/
def fnExactValidDealSpec : ChangeSpec := { name := "fnExactValidDeal", vars := ["loop.example/g01117/impl.errRange"], fn := fun _ => fun
  | [d, g1] => { results := [.lit (.bool true)], args := [d], vars := [g1] }
  | _ => none }
def fnExactValidDealRow : OpenClaim := { program := "ytnebkhelobpkpaadoor", sum := "fb06b2417da3597cb81d4e1e9bb52e19ba239756811d571ac0521ddad4c6aa2f", func := "loop.example/g01117/laws.FnExactValidDeal", spec := "fnExactValidDeal", unfollowed := true, recurses := true, named := ["loop.example/g01117/impl.errRange"], ifaces := true, apart := false, laid := [("loop.example/g01117/impl.errRange", laid_loop_example_g01117_impl_errRange)] }
def FnExactValidDealSaid : Prop := fnExactValidDealRow.holds Tryd.pinned (OpenSpec.ofChange fnExactValidDealSpec)

/-- ITS FALSE NEIGHBOUR: 'it returns false'. Refute it at one input. -/
def fnExactValidDealWrong : ChangeSpec := { name := "fnExactValidDeal", vars := ["loop.example/g01117/impl.errRange"], fn := fun _ => fun
  | [d, g1] => { results := [.lit (.bool false)], args := [d], vars := [g1] }
  | _ => none }
def FnExactValidDealWrongFalsely : Prop := fnExactValidDealRow.holds Tryd.pinned (OpenSpec.ofChange fnExactValidDealWrong)

/-- 'laws.FnExactDealValues': WHATEVER THE INPUT: true; the input reads as it did. -/
def fnExactDealValuesSpec : ChangeSpec := { name := "fnExactDealValues", vars := ["loop.example/g01117/impl.errRange"], fn := fun _ => fun
  | [d1, d2, d3, g1] => { results := [.lit (.bool true)], args := [d1, d2, d3], vars := [g1] }
  | _ => none }
def fnExactDealValuesRow : OpenClaim := { program := "ytnebkhelobpkpaadoor", sum := "fb06b2417da3597cb81d4e1e9bb52e19ba239756811d571ac0521ddad4c6aa2f", func := "loop.example/g01117/laws.FnExactDealValues", spec := "fnExactDealValues", unfollowed := true, recurses := true, named := ["loop.example/g01117/impl.errRange"], ifaces := true, apart := false, laid := [("loop.example/g01117/impl.errRange", laid_loop_example_g01117_impl_errRange)] }
def FnExactDealValuesSaid : Prop := fnExactDealValuesRow.holds Tryd.pinned (OpenSpec.ofChange fnExactDealValuesSpec)

/-- ITS FALSE NEIGHBOUR: 'it returns false'. Refute it at one input. -/
def fnExactDealValuesWrong : ChangeSpec := { name := "fnExactDealValues", vars := ["loop.example/g01117/impl.errRange"], fn := fun _ => fun
  | [d1, d2, d3, g1] => { results := [.lit (.bool false)], args := [d1, d2, d3], vars := [g1] }
  | _ => none }
def FnExactDealValuesWrongFalsely : Prop := fnExactDealValuesRow.holds Tryd.pinned (OpenSpec.ofChange fnExactDealValuesWrong)

/-- 'laws.FnExactDealTags': WHATEVER THE INPUT: true; the input reads as it did. -/
def fnExactDealTagsSpec : ChangeSpec := { name := "fnExactDealTags", vars := ["loop.example/g01117/impl.errRange"], fn := fun _ => fun
  | [d1, d2, d3, g1] => { results := [.lit (.bool true)], args := [d1, d2, d3], vars := [g1] }
  | _ => none }
def fnExactDealTagsRow : OpenClaim := { program := "ytnebkhelobpkpaadoor", sum := "fb06b2417da3597cb81d4e1e9bb52e19ba239756811d571ac0521ddad4c6aa2f", func := "loop.example/g01117/laws.FnExactDealTags", spec := "fnExactDealTags", unfollowed := true, recurses := true, named := ["loop.example/g01117/impl.errRange"], ifaces := true, apart := false, laid := [("loop.example/g01117/impl.errRange", laid_loop_example_g01117_impl_errRange)] }
def FnExactDealTagsSaid : Prop := fnExactDealTagsRow.holds Tryd.pinned (OpenSpec.ofChange fnExactDealTagsSpec)

/-- ITS FALSE NEIGHBOUR: 'it returns false'. Refute it at one input. -/
def fnExactDealTagsWrong : ChangeSpec := { name := "fnExactDealTags", vars := ["loop.example/g01117/impl.errRange"], fn := fun _ => fun
  | [d1, d2, d3, g1] => { results := [.lit (.bool false)], args := [d1, d2, d3], vars := [g1] }
  | _ => none }
def FnExactDealTagsWrongFalsely : Prop := fnExactDealTagsRow.holds Tryd.pinned (OpenSpec.ofChange fnExactDealTagsWrong)

/- THE SECOND FORM. 'bulk': how many values and letters a reading holds, each counted each time it is reached (what is shared counts as often as it is met; a slice's spare places count too). A statement '..UptoSaid' is the law's where the arguments, and the package variables that the reading takes, are together of bulk at most 1048576: NARROWER than '..Said'. Prove '..Said' where nothing that the law and all that it calls make is longer than what came in: it says more and counts as full. Else prove '..UptoSaid'. A law counts once. -/
mutual
def uptoBulk {H : Type} : DataW H → Nat
  | .lit (.string bytes) => bytes.length + 1
  | .lit _ => 1
  | .nil => 1
  | .ptr d => uptoBulk d + 1
  | .slice elems spare => uptoBulkAll elems + uptoBulkAll spare + 1
  | .agg parts => uptoBulkAll parts + 1
  | .iface _ d => uptoBulk d + 1
  | .map entries => uptoBulkEntries entries + 1
  | .held _ => 1
def uptoBulkAll {H : Type} : List (DataW H) → Nat
  | [] => 0
  | d :: r => uptoBulk d + uptoBulkAll r
def uptoBulkEntries {H : Type} : List (Lit × DataW H) → Nat
  | [] => 0
  | x :: r => uptoBulkEntry x + uptoBulkEntries r
def uptoBulkEntry {H : Type} : Lit × DataW H → Nat
  | (.string bytes, d) => bytes.length + uptoBulk d + 1
  | (_, d) => uptoBulk d + 1
 end
def uptoSmall : (H : Type) → List (DataW H) → Bool := fun _ ds => decide (uptoBulkAll ds ≤ 1048576)
def OpenSpec.upto (s : _root_.Go.ChangeSpec) : _root_.Go.OpenSpec := { _root_.Go.OpenSpec.ofChange s with cond := some uptoSmall }

/-- 'laws.FnExactAlikeHolders', WHERE WHAT IT READS IS OF BULK AT MOST 1048576: true; the input reads as it did. -/
def fnExactAlikeHoldersUptoRow : OpenClaim := { program := "ytnebkhelobpkpaadoor", sum := "fb06b2417da3597cb81d4e1e9bb52e19ba239756811d571ac0521ddad4c6aa2f", func := "loop.example/g01117/laws.FnExactAlikeHolders", spec := "fnExactAlikeHolders", inPlace := ["internal/abi.NoEscape"], unfollowed := true, recurses := true, named := ["internal/strconv.uint64pow10", "math/bits.deBruijn32tab", "math/bits.deBruijn64tab"], apart := false, laid := [("math/bits.deBruijn32tab", laid_math_bits_deBruijn32tab), ("math/bits.deBruijn64tab", laid_math_bits_deBruijn64tab), ("internal/strconv.uint64pow10", laid_internal_strconv_uint64pow10)], narrowed := true }
def FnExactAlikeHoldersUptoSaid : Prop := fnExactAlikeHoldersUptoRow.holds Tryd.pinned (OpenSpec.upto fnExactAlikeHoldersSpec)

/-- 'laws.FnExactDualRanks', WHERE WHAT IT READS IS OF BULK AT MOST 1048576: true; the input reads as it did. -/
def fnExactDualRanksUptoRow : OpenClaim := { program := "ytnebkhelobpkpaadoor", sum := "fb06b2417da3597cb81d4e1e9bb52e19ba239756811d571ac0521ddad4c6aa2f", func := "loop.example/g01117/laws.FnExactDualRanks", spec := "fnExactDualRanks", inPlace := ["internal/abi.NoEscape"], unfollowed := true, recurses := true, named := ["internal/strconv.uint64pow10", "math/bits.deBruijn32tab", "math/bits.deBruijn64tab"], apart := false, laid := [("math/bits.deBruijn32tab", laid_math_bits_deBruijn32tab), ("math/bits.deBruijn64tab", laid_math_bits_deBruijn64tab), ("internal/strconv.uint64pow10", laid_internal_strconv_uint64pow10)], narrowed := true }
def FnExactDualRanksUptoSaid : Prop := fnExactDualRanksUptoRow.holds Tryd.pinned (OpenSpec.upto fnExactDualRanksSpec)

/-- 'laws.FnExactValidDeal', WHERE WHAT IT READS IS OF BULK AT MOST 1048576: true; the input reads as it did. -/
def fnExactValidDealUptoRow : OpenClaim := { program := "ytnebkhelobpkpaadoor", sum := "fb06b2417da3597cb81d4e1e9bb52e19ba239756811d571ac0521ddad4c6aa2f", func := "loop.example/g01117/laws.FnExactValidDeal", spec := "fnExactValidDeal", unfollowed := true, recurses := true, named := ["loop.example/g01117/impl.errRange"], ifaces := true, apart := false, laid := [("loop.example/g01117/impl.errRange", laid_loop_example_g01117_impl_errRange)], narrowed := true }
def FnExactValidDealUptoSaid : Prop := fnExactValidDealUptoRow.holds Tryd.pinned (OpenSpec.upto fnExactValidDealSpec)

/-- 'laws.FnExactDealValues', WHERE WHAT IT READS IS OF BULK AT MOST 1048576: true; the input reads as it did. -/
def fnExactDealValuesUptoRow : OpenClaim := { program := "ytnebkhelobpkpaadoor", sum := "fb06b2417da3597cb81d4e1e9bb52e19ba239756811d571ac0521ddad4c6aa2f", func := "loop.example/g01117/laws.FnExactDealValues", spec := "fnExactDealValues", unfollowed := true, recurses := true, named := ["loop.example/g01117/impl.errRange"], ifaces := true, apart := false, laid := [("loop.example/g01117/impl.errRange", laid_loop_example_g01117_impl_errRange)], narrowed := true }
def FnExactDealValuesUptoSaid : Prop := fnExactDealValuesUptoRow.holds Tryd.pinned (OpenSpec.upto fnExactDealValuesSpec)

/-- 'laws.FnExactDealTags', WHERE WHAT IT READS IS OF BULK AT MOST 1048576: true; the input reads as it did. -/
def fnExactDealTagsUptoRow : OpenClaim := { program := "ytnebkhelobpkpaadoor", sum := "fb06b2417da3597cb81d4e1e9bb52e19ba239756811d571ac0521ddad4c6aa2f", func := "loop.example/g01117/laws.FnExactDealTags", spec := "fnExactDealTags", unfollowed := true, recurses := true, named := ["loop.example/g01117/impl.errRange"], ifaces := true, apart := false, laid := [("loop.example/g01117/impl.errRange", laid_loop_example_g01117_impl_errRange)], narrowed := true }
def FnExactDealTagsUptoSaid : Prop := fnExactDealTagsUptoRow.holds Tryd.pinned (OpenSpec.upto fnExactDealTagsSpec)

end Rows
end Go.Proofs.YtnebkhelobpkpaaDoor

/-
  NARROWER THAN 'FOR EVERY INPUT', by the rows' own cells (each row's printed sentence says how): FnExactFirstMisfit: laid · FnExactDualRanks: laid · FnExactValidDeed: laid · FnExactDeedText: laid · FnExactValidDeal: ifaces, laid · FnExactDealValues: ifaces, laid · FnExactDealTags: ifaces, laid · FnExactTagsFit: ifaces, laid · FnExactLiesThatPass: ifaces, laid.
  DERIVED. THE GIVEN ROWS OF THIS SEAT. 9 by the template 'for every input the law returns true; each argument reads behind the call as it read before'; 0 by the template 'total and deterministic' (their statements: YthmjcmhaijiedaaDoorTotals.lean).
  GIVEN WITH THE SEED: the statements are not yours to turn. If you find one false, say at which input.
  Laid BY PROGRAM, IN A SANDBOX (cutbox-rows.mjs): the forced cells as the released guide's own fill.sh prints them over the translation 7d98699c936e0a1d… (all of the seat's roots in one cut). By AI agents, Wed Nov 11 2026. No macro, syntax, notation, axiom, sorry.
-/
import Derived.Test.YthmjcmhaijiedaaDoorChecked
import GoSem.Claim
import GoSem.ClaimJoined
import GoSem.ClaimMapViews
import Derived.JoinedTies
import Derived.KernelRfl
namespace Go.Proofs.YthmjcmhaijiedaaDoor
/- THE CELL 'sum', in the pinned program and in every row, IS THE sha256 OF THE DUMP (.gsa) THAT YthmjcmhaijiedaaDoorProg.lean LOADS. Nothing in Lean hashes anything: it is a label: what it is worth is what the hold of that sum in a sandbox is worth. -/
noncomputable def Tryd.pinned : Pinned := { name := "ythmjcmhaijiedaadoor", sum := "7d98699c936e0a1d03fb685d205766fee4b34e6ae91d0f447ba8ab3ea6db774d", checked := Tryd.checked }
namespace Rows
def none {H : Type} : Left H := { results := [], args := [] }

/- WHAT THE LISTED PACKAGE-LEVEL VARIABLES READ AS WHEN THE CALL BEGINS. Each datum BY PROGRAM (the guide's laid-datum.mjs) off the statement by which the dump's own 'gosem.cut.vars' lays the variable. In a bare row this is a premise. The card (YthmjcmhaijiedaaDoorCards.lean) ties it to the program's text. -/
def laid_math_bits_deBruijn32tab {H : Type} : DataW H := .agg [.lit (.int .u8 0), .lit (.int .u8 1), .lit (.int .u8 28), .lit (.int .u8 2), .lit (.int .u8 29), .lit (.int .u8 14), .lit (.int .u8 24), .lit (.int .u8 3), .lit (.int .u8 30), .lit (.int .u8 22), .lit (.int .u8 20), .lit (.int .u8 15), .lit (.int .u8 25), .lit (.int .u8 17), .lit (.int .u8 4), .lit (.int .u8 8), .lit (.int .u8 31), .lit (.int .u8 27), .lit (.int .u8 13), .lit (.int .u8 23), .lit (.int .u8 21), .lit (.int .u8 19), .lit (.int .u8 16), .lit (.int .u8 7), .lit (.int .u8 26), .lit (.int .u8 12), .lit (.int .u8 18), .lit (.int .u8 6), .lit (.int .u8 11), .lit (.int .u8 5), .lit (.int .u8 10), .lit (.int .u8 9)]
def laid_math_bits_deBruijn64tab {H : Type} : DataW H := .agg [.lit (.int .u8 0), .lit (.int .u8 1), .lit (.int .u8 56), .lit (.int .u8 2), .lit (.int .u8 57), .lit (.int .u8 49), .lit (.int .u8 28), .lit (.int .u8 3), .lit (.int .u8 61), .lit (.int .u8 58), .lit (.int .u8 42), .lit (.int .u8 50), .lit (.int .u8 38), .lit (.int .u8 29), .lit (.int .u8 17), .lit (.int .u8 4), .lit (.int .u8 62), .lit (.int .u8 47), .lit (.int .u8 59), .lit (.int .u8 36), .lit (.int .u8 45), .lit (.int .u8 43), .lit (.int .u8 51), .lit (.int .u8 22), .lit (.int .u8 53), .lit (.int .u8 39), .lit (.int .u8 33), .lit (.int .u8 30), .lit (.int .u8 24), .lit (.int .u8 18), .lit (.int .u8 12), .lit (.int .u8 5), .lit (.int .u8 63), .lit (.int .u8 55), .lit (.int .u8 48), .lit (.int .u8 27), .lit (.int .u8 60), .lit (.int .u8 41), .lit (.int .u8 37), .lit (.int .u8 16), .lit (.int .u8 46), .lit (.int .u8 35), .lit (.int .u8 44), .lit (.int .u8 21), .lit (.int .u8 52), .lit (.int .u8 32), .lit (.int .u8 23), .lit (.int .u8 11), .lit (.int .u8 54), .lit (.int .u8 26), .lit (.int .u8 40), .lit (.int .u8 15), .lit (.int .u8 34), .lit (.int .u8 20), .lit (.int .u8 31), .lit (.int .u8 10), .lit (.int .u8 25), .lit (.int .u8 14), .lit (.int .u8 19), .lit (.int .u8 9), .lit (.int .u8 13), .lit (.int .u8 8), .lit (.int .u8 7), .lit (.int .u8 6)]
def laid_internal_strconv_uint64pow10 {H : Type} : DataW H := .agg [.lit (.int .u64 1), .lit (.int .u64 10), .lit (.int .u64 100), .lit (.int .u64 1000), .lit (.int .u64 10000), .lit (.int .u64 100000), .lit (.int .u64 1000000), .lit (.int .u64 10000000), .lit (.int .u64 100000000), .lit (.int .u64 1000000000), .lit (.int .u64 10000000000), .lit (.int .u64 100000000000), .lit (.int .u64 1000000000000), .lit (.int .u64 10000000000000), .lit (.int .u64 100000000000000), .lit (.int .u64 1000000000000000), .lit (.int .u64 10000000000000000), .lit (.int .u64 100000000000000000), .lit (.int .u64 1000000000000000000), .lit (.int .u64 10000000000000000000)]
def laid_loop_example_g01117_impl_deedForms {H : Type} : DataW H := .agg [.agg [.lit (.string []), .lit (.int .i64 0)], .agg [.lit (.string [103, 105, 118, 101]), .lit (.int .i64 1)], .agg [.lit (.string [104, 97, 110, 100]), .lit (.int .i64 1)], .agg [.lit (.string [100, 101, 108, 105, 118, 101, 114]), .lit (.int .i64 1)], .agg [.lit (.string [99, 111, 112, 121]), .lit (.int .i64 1)], .agg [.lit (.string [100, 114, 111, 112]), .lit (.int .i64 1)], .agg [.lit (.string [108, 105, 101]), .lit (.int .i64 2)], .agg [.lit (.string [115, 97, 118, 101]), .lit (.int .i64 1)], .agg [.lit (.string [99, 114, 97, 115, 104]), .lit (.int .i64 1)], .agg [.lit (.string [114, 101, 110, 101, 119]), .lit (.int .i64 0)]]
def laid_loop_example_g01117_impl_errRange {H : Type} : DataW H := .iface "*errors.errorString" (.ptr (.agg [.lit (.string [97, 32, 110, 117, 109, 98, 101, 114, 32, 111, 114, 32, 97, 32, 108, 105, 115, 116, 32, 105, 115, 32, 110, 111, 116, 32, 119, 104, 97, 116, 32, 105, 116, 32, 104, 97, 115, 32, 116, 111, 32, 98, 101])]))

/-- 'laws.FnExactFirstMisfit': WHATEVER THE INPUT: true; the input reads as it did. -/
def fnExactFirstMisfitSpec : ChangeSpec := { name := "fnExactFirstMisfit", fn := fun _ => fun
  | [d1, d2] => { results := [.lit (.bool true)], args := [d1, d2] }
  | _ => none }
def fnExactFirstMisfitRow : OpenClaim := { program := "ythmjcmhaijiedaadoor", sum := "7d98699c936e0a1d03fb685d205766fee4b34e6ae91d0f447ba8ab3ea6db774d", func := "loop.example/g01117/laws.FnExactFirstMisfit", spec := "fnExactFirstMisfit", inPlace := ["internal/abi.NoEscape"], unfollowed := true, recurses := true, named := ["internal/strconv.uint64pow10", "math/bits.deBruijn32tab", "math/bits.deBruijn64tab"], apart := false, laid := [("math/bits.deBruijn32tab", laid_math_bits_deBruijn32tab), ("math/bits.deBruijn64tab", laid_math_bits_deBruijn64tab), ("internal/strconv.uint64pow10", laid_internal_strconv_uint64pow10)] }
def FnExactFirstMisfitSaid : Prop := fnExactFirstMisfitRow.holds Tryd.pinned (OpenSpec.ofChange fnExactFirstMisfitSpec)

/-- ITS FALSE NEIGHBOUR: 'it returns false'. Refute it at one input. -/
def fnExactFirstMisfitWrong : ChangeSpec := { name := "fnExactFirstMisfit", fn := fun _ => fun
  | [d1, d2] => { results := [.lit (.bool false)], args := [d1, d2] }
  | _ => none }
def FnExactFirstMisfitWrongFalsely : Prop := fnExactFirstMisfitRow.holds Tryd.pinned (OpenSpec.ofChange fnExactFirstMisfitWrong)

/-- 'laws.FnExactDualRanks': WHATEVER THE INPUT: true; the input reads as it did. -/
def fnExactDualRanksSpec : ChangeSpec := { name := "fnExactDualRanks", fn := fun _ => fun
  | [d1, d2] => { results := [.lit (.bool true)], args := [d1, d2] }
  | _ => none }
def fnExactDualRanksRow : OpenClaim := { program := "ythmjcmhaijiedaadoor", sum := "7d98699c936e0a1d03fb685d205766fee4b34e6ae91d0f447ba8ab3ea6db774d", func := "loop.example/g01117/laws.FnExactDualRanks", spec := "fnExactDualRanks", inPlace := ["internal/abi.NoEscape"], unfollowed := true, recurses := true, named := ["internal/strconv.uint64pow10", "math/bits.deBruijn32tab", "math/bits.deBruijn64tab"], apart := false, laid := [("math/bits.deBruijn32tab", laid_math_bits_deBruijn32tab), ("math/bits.deBruijn64tab", laid_math_bits_deBruijn64tab), ("internal/strconv.uint64pow10", laid_internal_strconv_uint64pow10)] }
def FnExactDualRanksSaid : Prop := fnExactDualRanksRow.holds Tryd.pinned (OpenSpec.ofChange fnExactDualRanksSpec)

/-- ITS FALSE NEIGHBOUR: 'it returns false'. Refute it at one input. -/
def fnExactDualRanksWrong : ChangeSpec := { name := "fnExactDualRanks", fn := fun _ => fun
  | [d1, d2] => { results := [.lit (.bool false)], args := [d1, d2] }
  | _ => none }
def FnExactDualRanksWrongFalsely : Prop := fnExactDualRanksRow.holds Tryd.pinned (OpenSpec.ofChange fnExactDualRanksWrong)

/-- 'laws.FnExactValidDeed': WHATEVER THE INPUT: true; the input reads as it did. -/
def fnExactValidDeedSpec : ChangeSpec := { name := "fnExactValidDeed", vars := ["loop.example/g01117/impl.deedForms"], fn := fun _ => fun
  | [d, g1] => { results := [.lit (.bool true)], args := [d], vars := [g1] }
  | _ => none }
def fnExactValidDeedRow : OpenClaim := { program := "ythmjcmhaijiedaadoor", sum := "7d98699c936e0a1d03fb685d205766fee4b34e6ae91d0f447ba8ab3ea6db774d", func := "loop.example/g01117/laws.FnExactValidDeed", spec := "fnExactValidDeed", named := ["loop.example/g01117/impl.deedForms"], apart := false, laid := [("loop.example/g01117/impl.deedForms", laid_loop_example_g01117_impl_deedForms)] }
def FnExactValidDeedSaid : Prop := fnExactValidDeedRow.holds Tryd.pinned (OpenSpec.ofChange fnExactValidDeedSpec)

/-- ITS FALSE NEIGHBOUR: 'it returns false'. Refute it at one input. -/
def fnExactValidDeedWrong : ChangeSpec := { name := "fnExactValidDeed", vars := ["loop.example/g01117/impl.deedForms"], fn := fun _ => fun
  | [d, g1] => { results := [.lit (.bool false)], args := [d], vars := [g1] }
  | _ => none }
def FnExactValidDeedWrongFalsely : Prop := fnExactValidDeedRow.holds Tryd.pinned (OpenSpec.ofChange fnExactValidDeedWrong)

/-- 'laws.FnExactDeedText': WHATEVER THE INPUT: true; the input reads as it did. -/
def fnExactDeedTextSpec : ChangeSpec := { name := "fnExactDeedText", vars := ["loop.example/g01117/impl.deedForms"], fn := fun _ => fun
  | [d, g1] => { results := [.lit (.bool true)], args := [d], vars := [g1] }
  | _ => none }
def fnExactDeedTextRow : OpenClaim := { program := "ythmjcmhaijiedaadoor", sum := "7d98699c936e0a1d03fb685d205766fee4b34e6ae91d0f447ba8ab3ea6db774d", func := "loop.example/g01117/laws.FnExactDeedText", spec := "fnExactDeedText", recurses := true, named := ["loop.example/g01117/impl.deedForms", "internal/strconv.uint64pow10", "math/bits.deBruijn32tab", "math/bits.deBruijn64tab"], apart := false, laid := [("math/bits.deBruijn32tab", laid_math_bits_deBruijn32tab), ("math/bits.deBruijn64tab", laid_math_bits_deBruijn64tab), ("internal/strconv.uint64pow10", laid_internal_strconv_uint64pow10), ("loop.example/g01117/impl.deedForms", laid_loop_example_g01117_impl_deedForms)] }
def FnExactDeedTextSaid : Prop := fnExactDeedTextRow.holds Tryd.pinned (OpenSpec.ofChange fnExactDeedTextSpec)

/-- ITS FALSE NEIGHBOUR: 'it returns false'. Refute it at one input. -/
def fnExactDeedTextWrong : ChangeSpec := { name := "fnExactDeedText", vars := ["loop.example/g01117/impl.deedForms"], fn := fun _ => fun
  | [d, g1] => { results := [.lit (.bool false)], args := [d], vars := [g1] }
  | _ => none }
def FnExactDeedTextWrongFalsely : Prop := fnExactDeedTextRow.holds Tryd.pinned (OpenSpec.ofChange fnExactDeedTextWrong)

/-- 'laws.FnExactValidDeal': WHATEVER THE INPUT: true; the input reads as it did. -/
def fnExactValidDealSpec : ChangeSpec := { name := "fnExactValidDeal", vars := ["loop.example/g01117/impl.errRange"], fn := fun _ => fun
  | [d, g1] => { results := [.lit (.bool true)], args := [d], vars := [g1] }
  | _ => none }
def fnExactValidDealRow : OpenClaim := { program := "ythmjcmhaijiedaadoor", sum := "7d98699c936e0a1d03fb685d205766fee4b34e6ae91d0f447ba8ab3ea6db774d", func := "loop.example/g01117/laws.FnExactValidDeal", spec := "fnExactValidDeal", unfollowed := true, recurses := true, named := ["loop.example/g01117/impl.errRange"], ifaces := true, apart := false, laid := [("loop.example/g01117/impl.errRange", laid_loop_example_g01117_impl_errRange)] }
def FnExactValidDealSaid : Prop := fnExactValidDealRow.holds Tryd.pinned (OpenSpec.ofChange fnExactValidDealSpec)

/-- ITS FALSE NEIGHBOUR: 'it returns false'. Refute it at one input. -/
def fnExactValidDealWrong : ChangeSpec := { name := "fnExactValidDeal", vars := ["loop.example/g01117/impl.errRange"], fn := fun _ => fun
  | [d, g1] => { results := [.lit (.bool false)], args := [d], vars := [g1] }
  | _ => none }
def FnExactValidDealWrongFalsely : Prop := fnExactValidDealRow.holds Tryd.pinned (OpenSpec.ofChange fnExactValidDealWrong)

/-- 'laws.FnExactDealValues': WHATEVER THE INPUT: true; the input reads as it did. -/
def fnExactDealValuesSpec : ChangeSpec := { name := "fnExactDealValues", vars := ["loop.example/g01117/impl.errRange"], fn := fun _ => fun
  | [d1, d2, d3, g1] => { results := [.lit (.bool true)], args := [d1, d2, d3], vars := [g1] }
  | _ => none }
def fnExactDealValuesRow : OpenClaim := { program := "ythmjcmhaijiedaadoor", sum := "7d98699c936e0a1d03fb685d205766fee4b34e6ae91d0f447ba8ab3ea6db774d", func := "loop.example/g01117/laws.FnExactDealValues", spec := "fnExactDealValues", unfollowed := true, recurses := true, named := ["loop.example/g01117/impl.errRange"], ifaces := true, apart := false, laid := [("loop.example/g01117/impl.errRange", laid_loop_example_g01117_impl_errRange)] }
def FnExactDealValuesSaid : Prop := fnExactDealValuesRow.holds Tryd.pinned (OpenSpec.ofChange fnExactDealValuesSpec)

/-- ITS FALSE NEIGHBOUR: 'it returns false'. Refute it at one input. -/
def fnExactDealValuesWrong : ChangeSpec := { name := "fnExactDealValues", vars := ["loop.example/g01117/impl.errRange"], fn := fun _ => fun
  | [d1, d2, d3, g1] => { results := [.lit (.bool false)], args := [d1, d2, d3], vars := [g1] }
  | _ => none }
def FnExactDealValuesWrongFalsely : Prop := fnExactDealValuesRow.holds Tryd.pinned (OpenSpec.ofChange fnExactDealValuesWrong)

/-- 'laws.FnExactDealTags': WHATEVER THE INPUT: true; the input reads as it did. -/
def fnExactDealTagsSpec : ChangeSpec := { name := "fnExactDealTags", vars := ["loop.example/g01117/impl.errRange"], fn := fun _ => fun
  | [d1, d2, d3, g1] => { results := [.lit (.bool true)], args := [d1, d2, d3], vars := [g1] }
  | _ => none }
def fnExactDealTagsRow : OpenClaim := { program := "ythmjcmhaijiedaadoor", sum := "7d98699c936e0a1d03fb685d205766fee4b34e6ae91d0f447ba8ab3ea6db774d", func := "loop.example/g01117/laws.FnExactDealTags", spec := "fnExactDealTags", unfollowed := true, recurses := true, named := ["loop.example/g01117/impl.errRange"], ifaces := true, apart := false, laid := [("loop.example/g01117/impl.errRange", laid_loop_example_g01117_impl_errRange)] }
def FnExactDealTagsSaid : Prop := fnExactDealTagsRow.holds Tryd.pinned (OpenSpec.ofChange fnExactDealTagsSpec)

/-- ITS FALSE NEIGHBOUR: 'it returns false'. Refute it at one input. -/
def fnExactDealTagsWrong : ChangeSpec := { name := "fnExactDealTags", vars := ["loop.example/g01117/impl.errRange"], fn := fun _ => fun
  | [d1, d2, d3, g1] => { results := [.lit (.bool false)], args := [d1, d2, d3], vars := [g1] }
  | _ => none }
def FnExactDealTagsWrongFalsely : Prop := fnExactDealTagsRow.holds Tryd.pinned (OpenSpec.ofChange fnExactDealTagsWrong)

/-- 'laws.FnExactTagsFit': WHATEVER THE INPUT: true; the input reads as it did. -/
def fnExactTagsFitSpec : ChangeSpec := { name := "fnExactTagsFit", vars := ["loop.example/g01117/impl.errRange"], fn := fun _ => fun
  | [d1, d2, d3, d4, d5, g1] => { results := [.lit (.bool true)], args := [d1, d2, d3, d4, d5], vars := [g1] }
  | _ => none }
def fnExactTagsFitRow : OpenClaim := { program := "ythmjcmhaijiedaadoor", sum := "7d98699c936e0a1d03fb685d205766fee4b34e6ae91d0f447ba8ab3ea6db774d", func := "loop.example/g01117/laws.FnExactTagsFit", spec := "fnExactTagsFit", unfollowed := true, recurses := true, named := ["loop.example/g01117/impl.errRange"], ifaces := true, apart := false, laid := [("loop.example/g01117/impl.errRange", laid_loop_example_g01117_impl_errRange)] }
def FnExactTagsFitSaid : Prop := fnExactTagsFitRow.holds Tryd.pinned (OpenSpec.ofChange fnExactTagsFitSpec)

/-- ITS FALSE NEIGHBOUR: 'it returns false'. Refute it at one input. -/
def fnExactTagsFitWrong : ChangeSpec := { name := "fnExactTagsFit", vars := ["loop.example/g01117/impl.errRange"], fn := fun _ => fun
  | [d1, d2, d3, d4, d5, g1] => { results := [.lit (.bool false)], args := [d1, d2, d3, d4, d5], vars := [g1] }
  | _ => none }
def FnExactTagsFitWrongFalsely : Prop := fnExactTagsFitRow.holds Tryd.pinned (OpenSpec.ofChange fnExactTagsFitWrong)

/-- 'laws.FnExactLiesThatPass': WHATEVER THE INPUT: true; the input reads as it did. -/
def fnExactLiesThatPassSpec : ChangeSpec := { name := "fnExactLiesThatPass", vars := ["loop.example/g01117/impl.errRange"], fn := fun _ => fun
  | [d1, d2, d3, g1] => { results := [.lit (.bool true)], args := [d1, d2, d3], vars := [g1] }
  | _ => none }
def fnExactLiesThatPassRow : OpenClaim := { program := "ythmjcmhaijiedaadoor", sum := "7d98699c936e0a1d03fb685d205766fee4b34e6ae91d0f447ba8ab3ea6db774d", func := "loop.example/g01117/laws.FnExactLiesThatPass", spec := "fnExactLiesThatPass", unfollowed := true, recurses := true, named := ["loop.example/g01117/impl.errRange"], ifaces := true, apart := false, laid := [("loop.example/g01117/impl.errRange", laid_loop_example_g01117_impl_errRange)] }
def FnExactLiesThatPassSaid : Prop := fnExactLiesThatPassRow.holds Tryd.pinned (OpenSpec.ofChange fnExactLiesThatPassSpec)

/-- ITS FALSE NEIGHBOUR: 'it returns false'. Refute it at one input. -/
def fnExactLiesThatPassWrong : ChangeSpec := { name := "fnExactLiesThatPass", vars := ["loop.example/g01117/impl.errRange"], fn := fun _ => fun
  | [d1, d2, d3, g1] => { results := [.lit (.bool false)], args := [d1, d2, d3], vars := [g1] }
  | _ => none }
def FnExactLiesThatPassWrongFalsely : Prop := fnExactLiesThatPassRow.holds Tryd.pinned (OpenSpec.ofChange fnExactLiesThatPassWrong)

/- THE SECOND FORM. 'bulk': how many values and letters a reading holds, each counted each time it is reached (what is shared counts as often as it is met; a slice's spare places count too). A statement '..UptoSaid' is the law's where the arguments, and the package variables that the reading takes, are together of bulk at most 1048576: NARROWER than '..Said'. Prove '..Said' where nothing that the law and all that it calls make is longer than what came in: it says more and counts as full. Else prove '..UptoSaid'. A law counts once. -/
mutual
def uptoBulk {H : Type} : DataW H → Nat
  | .lit (.string bytes) => bytes.length + 1
  | .lit _ => 1
  | .nil => 1
  | .ptr d => uptoBulk d + 1
  | .slice elems spare => uptoBulkAll elems + uptoBulkAll spare + 1
  | .agg parts => uptoBulkAll parts + 1
  | .iface _ d => uptoBulk d + 1
  | .map entries => uptoBulkEntries entries + 1
  | .held _ => 1
def uptoBulkAll {H : Type} : List (DataW H) → Nat
  | [] => 0
  | d :: r => uptoBulk d + uptoBulkAll r
def uptoBulkEntries {H : Type} : List (Lit × DataW H) → Nat
  | [] => 0
  | x :: r => uptoBulkEntry x + uptoBulkEntries r
def uptoBulkEntry {H : Type} : Lit × DataW H → Nat
  | (.string bytes, d) => bytes.length + uptoBulk d + 1
  | (_, d) => uptoBulk d + 1
 end
def uptoSmall : (H : Type) → List (DataW H) → Bool := fun _ ds => decide (uptoBulkAll ds ≤ 1048576)
def OpenSpec.upto (s : _root_.Go.ChangeSpec) : _root_.Go.OpenSpec := { _root_.Go.OpenSpec.ofChange s with cond := some uptoSmall }

/-- 'laws.FnExactFirstMisfit', WHERE WHAT IT READS IS OF BULK AT MOST 1048576: true; the input reads as it did. -/
def fnExactFirstMisfitUptoRow : OpenClaim := { program := "ythmjcmhaijiedaadoor", sum := "7d98699c936e0a1d03fb685d205766fee4b34e6ae91d0f447ba8ab3ea6db774d", func := "loop.example/g01117/laws.FnExactFirstMisfit", spec := "fnExactFirstMisfit", inPlace := ["internal/abi.NoEscape"], unfollowed := true, recurses := true, named := ["internal/strconv.uint64pow10", "math/bits.deBruijn32tab", "math/bits.deBruijn64tab"], apart := false, laid := [("math/bits.deBruijn32tab", laid_math_bits_deBruijn32tab), ("math/bits.deBruijn64tab", laid_math_bits_deBruijn64tab), ("internal/strconv.uint64pow10", laid_internal_strconv_uint64pow10)], narrowed := true }
def FnExactFirstMisfitUptoSaid : Prop := fnExactFirstMisfitUptoRow.holds Tryd.pinned (OpenSpec.upto fnExactFirstMisfitSpec)

/-- 'laws.FnExactDualRanks', WHERE WHAT IT READS IS OF BULK AT MOST 1048576: true; the input reads as it did. -/
def fnExactDualRanksUptoRow : OpenClaim := { program := "ythmjcmhaijiedaadoor", sum := "7d98699c936e0a1d03fb685d205766fee4b34e6ae91d0f447ba8ab3ea6db774d", func := "loop.example/g01117/laws.FnExactDualRanks", spec := "fnExactDualRanks", inPlace := ["internal/abi.NoEscape"], unfollowed := true, recurses := true, named := ["internal/strconv.uint64pow10", "math/bits.deBruijn32tab", "math/bits.deBruijn64tab"], apart := false, laid := [("math/bits.deBruijn32tab", laid_math_bits_deBruijn32tab), ("math/bits.deBruijn64tab", laid_math_bits_deBruijn64tab), ("internal/strconv.uint64pow10", laid_internal_strconv_uint64pow10)], narrowed := true }
def FnExactDualRanksUptoSaid : Prop := fnExactDualRanksUptoRow.holds Tryd.pinned (OpenSpec.upto fnExactDualRanksSpec)

/-- 'laws.FnExactValidDeed', WHERE WHAT IT READS IS OF BULK AT MOST 1048576: true; the input reads as it did. -/
def fnExactValidDeedUptoRow : OpenClaim := { program := "ythmjcmhaijiedaadoor", sum := "7d98699c936e0a1d03fb685d205766fee4b34e6ae91d0f447ba8ab3ea6db774d", func := "loop.example/g01117/laws.FnExactValidDeed", spec := "fnExactValidDeed", named := ["loop.example/g01117/impl.deedForms"], apart := false, laid := [("loop.example/g01117/impl.deedForms", laid_loop_example_g01117_impl_deedForms)], narrowed := true }
def FnExactValidDeedUptoSaid : Prop := fnExactValidDeedUptoRow.holds Tryd.pinned (OpenSpec.upto fnExactValidDeedSpec)

/-- 'laws.FnExactDeedText', WHERE WHAT IT READS IS OF BULK AT MOST 1048576: true; the input reads as it did. -/
def fnExactDeedTextUptoRow : OpenClaim := { program := "ythmjcmhaijiedaadoor", sum := "7d98699c936e0a1d03fb685d205766fee4b34e6ae91d0f447ba8ab3ea6db774d", func := "loop.example/g01117/laws.FnExactDeedText", spec := "fnExactDeedText", recurses := true, named := ["loop.example/g01117/impl.deedForms", "internal/strconv.uint64pow10", "math/bits.deBruijn32tab", "math/bits.deBruijn64tab"], apart := false, laid := [("math/bits.deBruijn32tab", laid_math_bits_deBruijn32tab), ("math/bits.deBruijn64tab", laid_math_bits_deBruijn64tab), ("internal/strconv.uint64pow10", laid_internal_strconv_uint64pow10), ("loop.example/g01117/impl.deedForms", laid_loop_example_g01117_impl_deedForms)], narrowed := true }
def FnExactDeedTextUptoSaid : Prop := fnExactDeedTextUptoRow.holds Tryd.pinned (OpenSpec.upto fnExactDeedTextSpec)

/-- 'laws.FnExactValidDeal', WHERE WHAT IT READS IS OF BULK AT MOST 1048576: true; the input reads as it did. -/
def fnExactValidDealUptoRow : OpenClaim := { program := "ythmjcmhaijiedaadoor", sum := "7d98699c936e0a1d03fb685d205766fee4b34e6ae91d0f447ba8ab3ea6db774d", func := "loop.example/g01117/laws.FnExactValidDeal", spec := "fnExactValidDeal", unfollowed := true, recurses := true, named := ["loop.example/g01117/impl.errRange"], ifaces := true, apart := false, laid := [("loop.example/g01117/impl.errRange", laid_loop_example_g01117_impl_errRange)], narrowed := true }
def FnExactValidDealUptoSaid : Prop := fnExactValidDealUptoRow.holds Tryd.pinned (OpenSpec.upto fnExactValidDealSpec)

/-- 'laws.FnExactDealValues', WHERE WHAT IT READS IS OF BULK AT MOST 1048576: true; the input reads as it did. -/
def fnExactDealValuesUptoRow : OpenClaim := { program := "ythmjcmhaijiedaadoor", sum := "7d98699c936e0a1d03fb685d205766fee4b34e6ae91d0f447ba8ab3ea6db774d", func := "loop.example/g01117/laws.FnExactDealValues", spec := "fnExactDealValues", unfollowed := true, recurses := true, named := ["loop.example/g01117/impl.errRange"], ifaces := true, apart := false, laid := [("loop.example/g01117/impl.errRange", laid_loop_example_g01117_impl_errRange)], narrowed := true }
def FnExactDealValuesUptoSaid : Prop := fnExactDealValuesUptoRow.holds Tryd.pinned (OpenSpec.upto fnExactDealValuesSpec)

/-- 'laws.FnExactDealTags', WHERE WHAT IT READS IS OF BULK AT MOST 1048576: true; the input reads as it did. -/
def fnExactDealTagsUptoRow : OpenClaim := { program := "ythmjcmhaijiedaadoor", sum := "7d98699c936e0a1d03fb685d205766fee4b34e6ae91d0f447ba8ab3ea6db774d", func := "loop.example/g01117/laws.FnExactDealTags", spec := "fnExactDealTags", unfollowed := true, recurses := true, named := ["loop.example/g01117/impl.errRange"], ifaces := true, apart := false, laid := [("loop.example/g01117/impl.errRange", laid_loop_example_g01117_impl_errRange)], narrowed := true }
def FnExactDealTagsUptoSaid : Prop := fnExactDealTagsUptoRow.holds Tryd.pinned (OpenSpec.upto fnExactDealTagsSpec)

/-- 'laws.FnExactTagsFit', WHERE WHAT IT READS IS OF BULK AT MOST 1048576: true; the input reads as it did. -/
def fnExactTagsFitUptoRow : OpenClaim := { program := "ythmjcmhaijiedaadoor", sum := "7d98699c936e0a1d03fb685d205766fee4b34e6ae91d0f447ba8ab3ea6db774d", func := "loop.example/g01117/laws.FnExactTagsFit", spec := "fnExactTagsFit", unfollowed := true, recurses := true, named := ["loop.example/g01117/impl.errRange"], ifaces := true, apart := false, laid := [("loop.example/g01117/impl.errRange", laid_loop_example_g01117_impl_errRange)], narrowed := true }
def FnExactTagsFitUptoSaid : Prop := fnExactTagsFitUptoRow.holds Tryd.pinned (OpenSpec.upto fnExactTagsFitSpec)

/-- 'laws.FnExactLiesThatPass', WHERE WHAT IT READS IS OF BULK AT MOST 1048576: true; the input reads as it did. -/
def fnExactLiesThatPassUptoRow : OpenClaim := { program := "ythmjcmhaijiedaadoor", sum := "7d98699c936e0a1d03fb685d205766fee4b34e6ae91d0f447ba8ab3ea6db774d", func := "loop.example/g01117/laws.FnExactLiesThatPass", spec := "fnExactLiesThatPass", unfollowed := true, recurses := true, named := ["loop.example/g01117/impl.errRange"], ifaces := true, apart := false, laid := [("loop.example/g01117/impl.errRange", laid_loop_example_g01117_impl_errRange)], narrowed := true }
def FnExactLiesThatPassUptoSaid : Prop := fnExactLiesThatPassUptoRow.holds Tryd.pinned (OpenSpec.upto fnExactLiesThatPassSpec)

end Rows
end Go.Proofs.YthmjcmhaijiedaaDoor

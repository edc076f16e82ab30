/-
  NARROWER THAN 'FOR EVERY INPUT', by the rows' own cells (each row's printed sentence says how): FnExactEitherFamily: laid · FnExactBothFamilies: laid · FnExactRenameHolders: laid · FnExactPutFamily: laid · FnExactAlikeHolders: laid · FnExactReadFamily: laid.
  DERIVED. THE GIVEN ROWS OF THIS SEAT. 6 by the template 'for every input the law returns true; each argument reads behind the call as it read before'; 0 by the template 'total and deterministic' (their statements: YtnalbonnjcphkaaDoorTotals.lean).
  GIVEN WITH THE SEED: the statements are not yours to turn. If you find one false, say at which input.
  Laid BY PROGRAM, IN A SANDBOX (cutbox-rows.mjs): the forced cells as the released guide's own fill.sh prints them over the translation d87b5e45c19076e3… (all of the seat's roots in one cut). By AI agents, Wed Nov 11 2026. No macro, syntax, notation, axiom, sorry.
-/
import Derived.Test.YtnalbonnjcphkaaDoorChecked
import GoSem.Claim
import GoSem.ClaimJoined
import GoSem.ClaimMapViews
import Derived.JoinedTies
import Derived.KernelRfl
namespace Go.Proofs.YtnalbonnjcphkaaDoor
/- THE CELL 'sum', in the pinned program and in every row, IS THE sha256 OF THE DUMP (.gsa) THAT YtnalbonnjcphkaaDoorProg.lean LOADS. Nothing in Lean hashes anything: it is a label: what it is worth is what the hold of that sum in a sandbox is worth. -/
noncomputable def Tryd.pinned : Pinned := { name := "ytnalbonnjcphkaadoor", sum := "d87b5e45c19076e3990bb2e95cd48e62a5f04cc6569c7a4fb1af900c4a3a8ef2", checked := Tryd.checked }
namespace Rows
def none {H : Type} : Left H := { results := [], args := [] }

/- WHAT THE LISTED PACKAGE-LEVEL VARIABLES READ AS WHEN THE CALL BEGINS. Each datum BY PROGRAM (the guide's laid-datum.mjs) off the statement by which the dump's own 'gosem.cut.vars' lays the variable. In a bare row this is a premise. The card (YtnalbonnjcphkaaDoorCards.lean) ties it to the program's text. -/
def laid_math_bits_deBruijn32tab {H : Type} : DataW H := .agg [.lit (.int .u8 0), .lit (.int .u8 1), .lit (.int .u8 28), .lit (.int .u8 2), .lit (.int .u8 29), .lit (.int .u8 14), .lit (.int .u8 24), .lit (.int .u8 3), .lit (.int .u8 30), .lit (.int .u8 22), .lit (.int .u8 20), .lit (.int .u8 15), .lit (.int .u8 25), .lit (.int .u8 17), .lit (.int .u8 4), .lit (.int .u8 8), .lit (.int .u8 31), .lit (.int .u8 27), .lit (.int .u8 13), .lit (.int .u8 23), .lit (.int .u8 21), .lit (.int .u8 19), .lit (.int .u8 16), .lit (.int .u8 7), .lit (.int .u8 26), .lit (.int .u8 12), .lit (.int .u8 18), .lit (.int .u8 6), .lit (.int .u8 11), .lit (.int .u8 5), .lit (.int .u8 10), .lit (.int .u8 9)]
def laid_math_bits_deBruijn64tab {H : Type} : DataW H := .agg [.lit (.int .u8 0), .lit (.int .u8 1), .lit (.int .u8 56), .lit (.int .u8 2), .lit (.int .u8 57), .lit (.int .u8 49), .lit (.int .u8 28), .lit (.int .u8 3), .lit (.int .u8 61), .lit (.int .u8 58), .lit (.int .u8 42), .lit (.int .u8 50), .lit (.int .u8 38), .lit (.int .u8 29), .lit (.int .u8 17), .lit (.int .u8 4), .lit (.int .u8 62), .lit (.int .u8 47), .lit (.int .u8 59), .lit (.int .u8 36), .lit (.int .u8 45), .lit (.int .u8 43), .lit (.int .u8 51), .lit (.int .u8 22), .lit (.int .u8 53), .lit (.int .u8 39), .lit (.int .u8 33), .lit (.int .u8 30), .lit (.int .u8 24), .lit (.int .u8 18), .lit (.int .u8 12), .lit (.int .u8 5), .lit (.int .u8 63), .lit (.int .u8 55), .lit (.int .u8 48), .lit (.int .u8 27), .lit (.int .u8 60), .lit (.int .u8 41), .lit (.int .u8 37), .lit (.int .u8 16), .lit (.int .u8 46), .lit (.int .u8 35), .lit (.int .u8 44), .lit (.int .u8 21), .lit (.int .u8 52), .lit (.int .u8 32), .lit (.int .u8 23), .lit (.int .u8 11), .lit (.int .u8 54), .lit (.int .u8 26), .lit (.int .u8 40), .lit (.int .u8 15), .lit (.int .u8 34), .lit (.int .u8 20), .lit (.int .u8 31), .lit (.int .u8 10), .lit (.int .u8 25), .lit (.int .u8 14), .lit (.int .u8 19), .lit (.int .u8 9), .lit (.int .u8 13), .lit (.int .u8 8), .lit (.int .u8 7), .lit (.int .u8 6)]
def laid_internal_strconv_uint64pow10 {H : Type} : DataW H := .agg [.lit (.int .u64 1), .lit (.int .u64 10), .lit (.int .u64 100), .lit (.int .u64 1000), .lit (.int .u64 10000), .lit (.int .u64 100000), .lit (.int .u64 1000000), .lit (.int .u64 10000000), .lit (.int .u64 100000000), .lit (.int .u64 1000000000), .lit (.int .u64 10000000000), .lit (.int .u64 100000000000), .lit (.int .u64 1000000000000), .lit (.int .u64 10000000000000), .lit (.int .u64 100000000000000), .lit (.int .u64 1000000000000000), .lit (.int .u64 10000000000000000), .lit (.int .u64 100000000000000000), .lit (.int .u64 1000000000000000000), .lit (.int .u64 10000000000000000000)]
def laid_strconv_ErrRange {H : Type} : DataW H := .iface "*errors.errorString" (.ptr (.agg [.lit (.string [118, 97, 108, 117, 101, 32, 111, 117, 116, 32, 111, 102, 32, 114, 97, 110, 103, 101])]))
def laid_strconv_ErrSyntax {H : Type} : DataW H := .iface "*errors.errorString" (.ptr (.agg [.lit (.string [105, 110, 118, 97, 108, 105, 100, 32, 115, 121, 110, 116, 97, 120])]))

/-- 'laws.FnExactEitherFamily': WHATEVER THE INPUT: true; the input reads as it did. -/
def fnExactEitherFamilySpec : ChangeSpec := { name := "fnExactEitherFamily", fn := fun _ => fun
  | [d1, d2] => { results := [.lit (.bool true)], args := [d1, d2] }
  | _ => none }
def fnExactEitherFamilyRow : OpenClaim := { program := "ytnalbonnjcphkaadoor", sum := "d87b5e45c19076e3990bb2e95cd48e62a5f04cc6569c7a4fb1af900c4a3a8ef2", func := "loop.example/g01117/laws.FnExactEitherFamily", spec := "fnExactEitherFamily", inPlace := ["internal/abi.NoEscape"], unfollowed := true, recurses := true, named := ["internal/strconv.uint64pow10", "math/bits.deBruijn32tab", "math/bits.deBruijn64tab"], apart := false, laid := [("math/bits.deBruijn32tab", laid_math_bits_deBruijn32tab), ("math/bits.deBruijn64tab", laid_math_bits_deBruijn64tab), ("internal/strconv.uint64pow10", laid_internal_strconv_uint64pow10)] }
def FnExactEitherFamilySaid : Prop := fnExactEitherFamilyRow.holds Tryd.pinned (OpenSpec.ofChange fnExactEitherFamilySpec)

/-- ITS FALSE NEIGHBOUR: 'it returns false'. Refute it at one input. -/
def fnExactEitherFamilyWrong : ChangeSpec := { name := "fnExactEitherFamily", fn := fun _ => fun
  | [d1, d2] => { results := [.lit (.bool false)], args := [d1, d2] }
  | _ => none }
def FnExactEitherFamilyWrongFalsely : Prop := fnExactEitherFamilyRow.holds Tryd.pinned (OpenSpec.ofChange fnExactEitherFamilyWrong)

/-- 'laws.FnExactBothFamilies': WHATEVER THE INPUT: true; the input reads as it did. -/
def fnExactBothFamiliesSpec : ChangeSpec := { name := "fnExactBothFamilies", fn := fun _ => fun
  | [d1, d2] => { results := [.lit (.bool true)], args := [d1, d2] }
  | _ => none }
def fnExactBothFamiliesRow : OpenClaim := { program := "ytnalbonnjcphkaadoor", sum := "d87b5e45c19076e3990bb2e95cd48e62a5f04cc6569c7a4fb1af900c4a3a8ef2", func := "loop.example/g01117/laws.FnExactBothFamilies", spec := "fnExactBothFamilies", inPlace := ["internal/abi.NoEscape"], unfollowed := true, recurses := true, named := ["internal/strconv.uint64pow10", "math/bits.deBruijn32tab", "math/bits.deBruijn64tab"], apart := false, laid := [("math/bits.deBruijn32tab", laid_math_bits_deBruijn32tab), ("math/bits.deBruijn64tab", laid_math_bits_deBruijn64tab), ("internal/strconv.uint64pow10", laid_internal_strconv_uint64pow10)] }
def FnExactBothFamiliesSaid : Prop := fnExactBothFamiliesRow.holds Tryd.pinned (OpenSpec.ofChange fnExactBothFamiliesSpec)

/-- ITS FALSE NEIGHBOUR: 'it returns false'. Refute it at one input. -/
def fnExactBothFamiliesWrong : ChangeSpec := { name := "fnExactBothFamilies", fn := fun _ => fun
  | [d1, d2] => { results := [.lit (.bool false)], args := [d1, d2] }
  | _ => none }
def FnExactBothFamiliesWrongFalsely : Prop := fnExactBothFamiliesRow.holds Tryd.pinned (OpenSpec.ofChange fnExactBothFamiliesWrong)

/-- 'laws.FnExactRenameHolders': WHATEVER THE INPUT: true; the input reads as it did. -/
def fnExactRenameHoldersSpec : ChangeSpec := { name := "fnExactRenameHolders", fn := fun _ => fun
  | [d1, d2] => { results := [.lit (.bool true)], args := [d1, d2] }
  | _ => none }
def fnExactRenameHoldersRow : OpenClaim := { program := "ytnalbonnjcphkaadoor", sum := "d87b5e45c19076e3990bb2e95cd48e62a5f04cc6569c7a4fb1af900c4a3a8ef2", func := "loop.example/g01117/laws.FnExactRenameHolders", spec := "fnExactRenameHolders", inPlace := ["internal/abi.NoEscape"], unfollowed := true, recurses := true, named := ["internal/strconv.uint64pow10", "math/bits.deBruijn32tab", "math/bits.deBruijn64tab"], apart := false, laid := [("math/bits.deBruijn32tab", laid_math_bits_deBruijn32tab), ("math/bits.deBruijn64tab", laid_math_bits_deBruijn64tab), ("internal/strconv.uint64pow10", laid_internal_strconv_uint64pow10)] }
def FnExactRenameHoldersSaid : Prop := fnExactRenameHoldersRow.holds Tryd.pinned (OpenSpec.ofChange fnExactRenameHoldersSpec)

/-- ITS FALSE NEIGHBOUR: 'it returns false'. Refute it at one input. -/
def fnExactRenameHoldersWrong : ChangeSpec := { name := "fnExactRenameHolders", fn := fun _ => fun
  | [d1, d2] => { results := [.lit (.bool false)], args := [d1, d2] }
  | _ => none }
def FnExactRenameHoldersWrongFalsely : Prop := fnExactRenameHoldersRow.holds Tryd.pinned (OpenSpec.ofChange fnExactRenameHoldersWrong)

/-- 'laws.FnExactPutFamily': WHATEVER THE INPUT: true; the input reads as it did. -/
def fnExactPutFamilySpec : ChangeSpec := { name := "fnExactPutFamily", fn := fun _ => fun
  | [d1, d2, d3] => { results := [.lit (.bool true)], args := [d1, d2, d3] }
  | _ => none }
def fnExactPutFamilyRow : OpenClaim := { program := "ytnalbonnjcphkaadoor", sum := "d87b5e45c19076e3990bb2e95cd48e62a5f04cc6569c7a4fb1af900c4a3a8ef2", func := "loop.example/g01117/laws.FnExactPutFamily", spec := "fnExactPutFamily", inPlace := ["internal/abi.NoEscape"], unfollowed := true, recurses := true, named := ["internal/strconv.uint64pow10", "math/bits.deBruijn32tab", "math/bits.deBruijn64tab"], apart := false, laid := [("math/bits.deBruijn32tab", laid_math_bits_deBruijn32tab), ("math/bits.deBruijn64tab", laid_math_bits_deBruijn64tab), ("internal/strconv.uint64pow10", laid_internal_strconv_uint64pow10)] }
def FnExactPutFamilySaid : Prop := fnExactPutFamilyRow.holds Tryd.pinned (OpenSpec.ofChange fnExactPutFamilySpec)

/-- ITS FALSE NEIGHBOUR: 'it returns false'. Refute it at one input. -/
def fnExactPutFamilyWrong : ChangeSpec := { name := "fnExactPutFamily", fn := fun _ => fun
  | [d1, d2, d3] => { results := [.lit (.bool false)], args := [d1, d2, d3] }
  | _ => none }
def FnExactPutFamilyWrongFalsely : Prop := fnExactPutFamilyRow.holds Tryd.pinned (OpenSpec.ofChange fnExactPutFamilyWrong)

/-- 'laws.FnExactAlikeHolders': WHATEVER THE INPUT: true; the input reads as it did. -/
def fnExactAlikeHoldersSpec : ChangeSpec := { name := "fnExactAlikeHolders", fn := fun _ => fun
  | [d] => { results := [.lit (.bool true)], args := [d] }
  | _ => none }
def fnExactAlikeHoldersRow : OpenClaim := { program := "ytnalbonnjcphkaadoor", sum := "d87b5e45c19076e3990bb2e95cd48e62a5f04cc6569c7a4fb1af900c4a3a8ef2", func := "loop.example/g01117/laws.FnExactAlikeHolders", spec := "fnExactAlikeHolders", inPlace := ["internal/abi.NoEscape"], unfollowed := true, recurses := true, named := ["internal/strconv.uint64pow10", "math/bits.deBruijn32tab", "math/bits.deBruijn64tab"], apart := false, laid := [("math/bits.deBruijn32tab", laid_math_bits_deBruijn32tab), ("math/bits.deBruijn64tab", laid_math_bits_deBruijn64tab), ("internal/strconv.uint64pow10", laid_internal_strconv_uint64pow10)] }
def FnExactAlikeHoldersSaid : Prop := fnExactAlikeHoldersRow.holds Tryd.pinned (OpenSpec.ofChange fnExactAlikeHoldersSpec)

/-- ITS FALSE NEIGHBOUR: 'it returns false'. Refute it at one input. -/
def fnExactAlikeHoldersWrong : ChangeSpec := { name := "fnExactAlikeHolders", fn := fun _ => fun
  | [d] => { results := [.lit (.bool false)], args := [d] }
  | _ => none }
def FnExactAlikeHoldersWrongFalsely : Prop := fnExactAlikeHoldersRow.holds Tryd.pinned (OpenSpec.ofChange fnExactAlikeHoldersWrong)

/-- 'laws.FnExactReadFamily': WHATEVER THE INPUT: true; the input reads as it did. -/
def fnExactReadFamilySpec : ChangeSpec := { name := "fnExactReadFamily", fn := fun _ => fun
  | [d] => { results := [.lit (.bool true)], args := [d] }
  | _ => none }
def fnExactReadFamilyRow : OpenClaim := { program := "ytnalbonnjcphkaadoor", sum := "d87b5e45c19076e3990bb2e95cd48e62a5f04cc6569c7a4fb1af900c4a3a8ef2", func := "loop.example/g01117/laws.FnExactReadFamily", spec := "fnExactReadFamily", inPlace := ["internal/bytealg.IndexByteString", "internal/bytealg.IndexString", "internal/abi.NoEscape"], unfollowed := true, recurses := true, named := ["internal/bytealg.MaxLen", "strconv.ErrSyntax", "strconv.ErrRange", "internal/strconv.uint64pow10", "math/bits.deBruijn32tab", "math/bits.deBruijn64tab"], apart := false, laid := [("math/bits.deBruijn32tab", laid_math_bits_deBruijn32tab), ("math/bits.deBruijn64tab", laid_math_bits_deBruijn64tab), ("internal/strconv.uint64pow10", laid_internal_strconv_uint64pow10), ("strconv.ErrRange", laid_strconv_ErrRange), ("strconv.ErrSyntax", laid_strconv_ErrSyntax)] }
def FnExactReadFamilySaid : Prop := fnExactReadFamilyRow.holds Tryd.pinned (OpenSpec.ofChange fnExactReadFamilySpec)

/-- ITS FALSE NEIGHBOUR: 'it returns false'. Refute it at one input. -/
def fnExactReadFamilyWrong : ChangeSpec := { name := "fnExactReadFamily", fn := fun _ => fun
  | [d] => { results := [.lit (.bool false)], args := [d] }
  | _ => none }
def FnExactReadFamilyWrongFalsely : Prop := fnExactReadFamilyRow.holds Tryd.pinned (OpenSpec.ofChange fnExactReadFamilyWrong)

/- THE SECOND FORM. 'bulk': how many values and letters a reading holds, each counted each time it is reached (what is shared counts as often as it is met; a slice's spare places count too). A statement '..UptoSaid' is the law's where the arguments, and the package variables that the reading takes, are together of bulk at most 1048576: NARROWER than '..Said'. Prove '..Said' where nothing that the law and all that it calls make is longer than what came in: it says more and counts as full. Else prove '..UptoSaid'. A law counts once. -/
mutual
def uptoBulk {H : Type} : DataW H → Nat
  | .lit (.string bytes) => bytes.length + 1
  | .lit _ => 1
  | .nil => 1
  | .ptr d => uptoBulk d + 1
  | .slice elems spare => uptoBulkAll elems + uptoBulkAll spare + 1
  | .agg parts => uptoBulkAll parts + 1
  | .iface _ d => uptoBulk d + 1
  | .map entries => uptoBulkEntries entries + 1
  | .held _ => 1
def uptoBulkAll {H : Type} : List (DataW H) → Nat
  | [] => 0
  | d :: r => uptoBulk d + uptoBulkAll r
def uptoBulkEntries {H : Type} : List (Lit × DataW H) → Nat
  | [] => 0
  | x :: r => uptoBulkEntry x + uptoBulkEntries r
def uptoBulkEntry {H : Type} : Lit × DataW H → Nat
  | (.string bytes, d) => bytes.length + uptoBulk d + 1
  | (_, d) => uptoBulk d + 1
 end
def uptoSmall : (H : Type) → List (DataW H) → Bool := fun _ ds => decide (uptoBulkAll ds ≤ 1048576)
def OpenSpec.upto (s : _root_.Go.ChangeSpec) : _root_.Go.OpenSpec := { _root_.Go.OpenSpec.ofChange s with cond := some uptoSmall }

/-- 'laws.FnExactEitherFamily', WHERE WHAT IT READS IS OF BULK AT MOST 1048576: true; the input reads as it did. -/
def fnExactEitherFamilyUptoRow : OpenClaim := { program := "ytnalbonnjcphkaadoor", sum := "d87b5e45c19076e3990bb2e95cd48e62a5f04cc6569c7a4fb1af900c4a3a8ef2", func := "loop.example/g01117/laws.FnExactEitherFamily", spec := "fnExactEitherFamily", inPlace := ["internal/abi.NoEscape"], unfollowed := true, recurses := true, named := ["internal/strconv.uint64pow10", "math/bits.deBruijn32tab", "math/bits.deBruijn64tab"], apart := false, laid := [("math/bits.deBruijn32tab", laid_math_bits_deBruijn32tab), ("math/bits.deBruijn64tab", laid_math_bits_deBruijn64tab), ("internal/strconv.uint64pow10", laid_internal_strconv_uint64pow10)], narrowed := true }
def FnExactEitherFamilyUptoSaid : Prop := fnExactEitherFamilyUptoRow.holds Tryd.pinned (OpenSpec.upto fnExactEitherFamilySpec)

/-- 'laws.FnExactBothFamilies', WHERE WHAT IT READS IS OF BULK AT MOST 1048576: true; the input reads as it did. -/
def fnExactBothFamiliesUptoRow : OpenClaim := { program := "ytnalbonnjcphkaadoor", sum := "d87b5e45c19076e3990bb2e95cd48e62a5f04cc6569c7a4fb1af900c4a3a8ef2", func := "loop.example/g01117/laws.FnExactBothFamilies", spec := "fnExactBothFamilies", inPlace := ["internal/abi.NoEscape"], unfollowed := true, recurses := true, named := ["internal/strconv.uint64pow10", "math/bits.deBruijn32tab", "math/bits.deBruijn64tab"], apart := false, laid := [("math/bits.deBruijn32tab", laid_math_bits_deBruijn32tab), ("math/bits.deBruijn64tab", laid_math_bits_deBruijn64tab), ("internal/strconv.uint64pow10", laid_internal_strconv_uint64pow10)], narrowed := true }
def FnExactBothFamiliesUptoSaid : Prop := fnExactBothFamiliesUptoRow.holds Tryd.pinned (OpenSpec.upto fnExactBothFamiliesSpec)

/-- 'laws.FnExactRenameHolders', WHERE WHAT IT READS IS OF BULK AT MOST 1048576: true; the input reads as it did. -/
def fnExactRenameHoldersUptoRow : OpenClaim := { program := "ytnalbonnjcphkaadoor", sum := "d87b5e45c19076e3990bb2e95cd48e62a5f04cc6569c7a4fb1af900c4a3a8ef2", func := "loop.example/g01117/laws.FnExactRenameHolders", spec := "fnExactRenameHolders", inPlace := ["internal/abi.NoEscape"], unfollowed := true, recurses := true, named := ["internal/strconv.uint64pow10", "math/bits.deBruijn32tab", "math/bits.deBruijn64tab"], apart := false, laid := [("math/bits.deBruijn32tab", laid_math_bits_deBruijn32tab), ("math/bits.deBruijn64tab", laid_math_bits_deBruijn64tab), ("internal/strconv.uint64pow10", laid_internal_strconv_uint64pow10)], narrowed := true }
def FnExactRenameHoldersUptoSaid : Prop := fnExactRenameHoldersUptoRow.holds Tryd.pinned (OpenSpec.upto fnExactRenameHoldersSpec)

/-- 'laws.FnExactPutFamily', WHERE WHAT IT READS IS OF BULK AT MOST 1048576: true; the input reads as it did. -/
def fnExactPutFamilyUptoRow : OpenClaim := { program := "ytnalbonnjcphkaadoor", sum := "d87b5e45c19076e3990bb2e95cd48e62a5f04cc6569c7a4fb1af900c4a3a8ef2", func := "loop.example/g01117/laws.FnExactPutFamily", spec := "fnExactPutFamily", inPlace := ["internal/abi.NoEscape"], unfollowed := true, recurses := true, named := ["internal/strconv.uint64pow10", "math/bits.deBruijn32tab", "math/bits.deBruijn64tab"], apart := false, laid := [("math/bits.deBruijn32tab", laid_math_bits_deBruijn32tab), ("math/bits.deBruijn64tab", laid_math_bits_deBruijn64tab), ("internal/strconv.uint64pow10", laid_internal_strconv_uint64pow10)], narrowed := true }
def FnExactPutFamilyUptoSaid : Prop := fnExactPutFamilyUptoRow.holds Tryd.pinned (OpenSpec.upto fnExactPutFamilySpec)

/-- 'laws.FnExactAlikeHolders', WHERE WHAT IT READS IS OF BULK AT MOST 1048576: true; the input reads as it did. -/
def fnExactAlikeHoldersUptoRow : OpenClaim := { program := "ytnalbonnjcphkaadoor", sum := "d87b5e45c19076e3990bb2e95cd48e62a5f04cc6569c7a4fb1af900c4a3a8ef2", func := "loop.example/g01117/laws.FnExactAlikeHolders", spec := "fnExactAlikeHolders", inPlace := ["internal/abi.NoEscape"], unfollowed := true, recurses := true, named := ["internal/strconv.uint64pow10", "math/bits.deBruijn32tab", "math/bits.deBruijn64tab"], apart := false, laid := [("math/bits.deBruijn32tab", laid_math_bits_deBruijn32tab), ("math/bits.deBruijn64tab", laid_math_bits_deBruijn64tab), ("internal/strconv.uint64pow10", laid_internal_strconv_uint64pow10)], narrowed := true }
def FnExactAlikeHoldersUptoSaid : Prop := fnExactAlikeHoldersUptoRow.holds Tryd.pinned (OpenSpec.upto fnExactAlikeHoldersSpec)

/-- 'laws.FnExactReadFamily', WHERE WHAT IT READS IS OF BULK AT MOST 1048576: true; the input reads as it did. -/
def fnExactReadFamilyUptoRow : OpenClaim := { program := "ytnalbonnjcphkaadoor", sum := "d87b5e45c19076e3990bb2e95cd48e62a5f04cc6569c7a4fb1af900c4a3a8ef2", func := "loop.example/g01117/laws.FnExactReadFamily", spec := "fnExactReadFamily", inPlace := ["internal/bytealg.IndexByteString", "internal/bytealg.IndexString", "internal/abi.NoEscape"], unfollowed := true, recurses := true, named := ["internal/bytealg.MaxLen", "strconv.ErrSyntax", "strconv.ErrRange", "internal/strconv.uint64pow10", "math/bits.deBruijn32tab", "math/bits.deBruijn64tab"], apart := false, laid := [("math/bits.deBruijn32tab", laid_math_bits_deBruijn32tab), ("math/bits.deBruijn64tab", laid_math_bits_deBruijn64tab), ("internal/strconv.uint64pow10", laid_internal_strconv_uint64pow10), ("strconv.ErrRange", laid_strconv_ErrRange), ("strconv.ErrSyntax", laid_strconv_ErrSyntax)], narrowed := true }
def FnExactReadFamilyUptoSaid : Prop := fnExactReadFamilyUptoRow.holds Tryd.pinned (OpenSpec.upto fnExactReadFamilySpec)

end Rows
end Go.Proofs.YtnalbonnjcphkaaDoor

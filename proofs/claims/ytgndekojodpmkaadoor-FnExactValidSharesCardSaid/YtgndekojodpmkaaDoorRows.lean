/-
  NARROWER THAN 'FOR EVERY INPUT', by the rows' own cells (each row's printed sentence says how): FnExactTableText: laid · FnExactCurveAt: ifaces, laid · FnExactValidShares: ifaces, laid · FnExactAddCurves: ifaces, laid · FnExactScaleCurve: ifaces, laid · FnExactDealShares: ifaces, laid.
  DERIVED. THE GIVEN ROWS OF THIS SEAT. 6 by the template 'for every input the law returns true; each argument reads behind the call as it read before'; 0 by the template 'total and deterministic' (their statements: YtgndekojodpmkaaDoorTotals.lean).
  GIVEN WITH THE SEED: the statements are not yours to turn. If you find one false, say at which input.
  Laid BY PROGRAM, IN A SANDBOX (cutbox-rows.mjs): the forced cells as the released guide's own fill.sh prints them over the translation a5a79294b578b5c0… (all of the seat's roots in one cut). By AI agents, Wed Nov 11 2026. No macro, syntax, notation, axiom, sorry.
-/
import Derived.Test.YtgndekojodpmkaaDoorChecked
import GoSem.Claim
import GoSem.ClaimJoined
import GoSem.ClaimMapViews
import Derived.JoinedTies
import Derived.KernelRfl
namespace Go.Proofs.YtgndekojodpmkaaDoor
/- THE CELL 'sum', in the pinned program and in every row, IS THE sha256 OF THE DUMP (.gsa) THAT YtgndekojodpmkaaDoorProg.lean LOADS. Nothing in Lean hashes anything: it is a label: what it is worth is what the hold of that sum in a sandbox is worth. -/
noncomputable def Tryd.pinned : Pinned := { name := "ytgndekojodpmkaadoor", sum := "a5a79294b578b5c0fd1733b69b389016dc18855df9e3cf16c70546b74d177d0f", checked := Tryd.checked }
namespace Rows
def none {H : Type} : Left H := { results := [], args := [] }

/- WHAT THE LISTED PACKAGE-LEVEL VARIABLES READ AS WHEN THE CALL BEGINS. Each datum BY PROGRAM (the guide's laid-datum.mjs) off the statement by which the dump's own 'gosem.cut.vars' lays the variable. In a bare row this is a premise. The card (YtgndekojodpmkaaDoorCards.lean) ties it to the program's text. -/
def laid_math_bits_deBruijn32tab {H : Type} : DataW H := .agg [.lit (.int .u8 0), .lit (.int .u8 1), .lit (.int .u8 28), .lit (.int .u8 2), .lit (.int .u8 29), .lit (.int .u8 14), .lit (.int .u8 24), .lit (.int .u8 3), .lit (.int .u8 30), .lit (.int .u8 22), .lit (.int .u8 20), .lit (.int .u8 15), .lit (.int .u8 25), .lit (.int .u8 17), .lit (.int .u8 4), .lit (.int .u8 8), .lit (.int .u8 31), .lit (.int .u8 27), .lit (.int .u8 13), .lit (.int .u8 23), .lit (.int .u8 21), .lit (.int .u8 19), .lit (.int .u8 16), .lit (.int .u8 7), .lit (.int .u8 26), .lit (.int .u8 12), .lit (.int .u8 18), .lit (.int .u8 6), .lit (.int .u8 11), .lit (.int .u8 5), .lit (.int .u8 10), .lit (.int .u8 9)]
def laid_math_bits_deBruijn64tab {H : Type} : DataW H := .agg [.lit (.int .u8 0), .lit (.int .u8 1), .lit (.int .u8 56), .lit (.int .u8 2), .lit (.int .u8 57), .lit (.int .u8 49), .lit (.int .u8 28), .lit (.int .u8 3), .lit (.int .u8 61), .lit (.int .u8 58), .lit (.int .u8 42), .lit (.int .u8 50), .lit (.int .u8 38), .lit (.int .u8 29), .lit (.int .u8 17), .lit (.int .u8 4), .lit (.int .u8 62), .lit (.int .u8 47), .lit (.int .u8 59), .lit (.int .u8 36), .lit (.int .u8 45), .lit (.int .u8 43), .lit (.int .u8 51), .lit (.int .u8 22), .lit (.int .u8 53), .lit (.int .u8 39), .lit (.int .u8 33), .lit (.int .u8 30), .lit (.int .u8 24), .lit (.int .u8 18), .lit (.int .u8 12), .lit (.int .u8 5), .lit (.int .u8 63), .lit (.int .u8 55), .lit (.int .u8 48), .lit (.int .u8 27), .lit (.int .u8 60), .lit (.int .u8 41), .lit (.int .u8 37), .lit (.int .u8 16), .lit (.int .u8 46), .lit (.int .u8 35), .lit (.int .u8 44), .lit (.int .u8 21), .lit (.int .u8 52), .lit (.int .u8 32), .lit (.int .u8 23), .lit (.int .u8 11), .lit (.int .u8 54), .lit (.int .u8 26), .lit (.int .u8 40), .lit (.int .u8 15), .lit (.int .u8 34), .lit (.int .u8 20), .lit (.int .u8 31), .lit (.int .u8 10), .lit (.int .u8 25), .lit (.int .u8 14), .lit (.int .u8 19), .lit (.int .u8 9), .lit (.int .u8 13), .lit (.int .u8 8), .lit (.int .u8 7), .lit (.int .u8 6)]
def laid_internal_strconv_uint64pow10 {H : Type} : DataW H := .agg [.lit (.int .u64 1), .lit (.int .u64 10), .lit (.int .u64 100), .lit (.int .u64 1000), .lit (.int .u64 10000), .lit (.int .u64 100000), .lit (.int .u64 1000000), .lit (.int .u64 10000000), .lit (.int .u64 100000000), .lit (.int .u64 1000000000), .lit (.int .u64 10000000000), .lit (.int .u64 100000000000), .lit (.int .u64 1000000000000), .lit (.int .u64 10000000000000), .lit (.int .u64 100000000000000), .lit (.int .u64 1000000000000000), .lit (.int .u64 10000000000000000), .lit (.int .u64 100000000000000000), .lit (.int .u64 1000000000000000000), .lit (.int .u64 10000000000000000000)]
def laid_errors_errorType {H : Type} : DataW H := .iface "internal/reflectlite.rtype" (.agg [.ptr (.lit (.string [101, 114, 114, 111, 114]))])
def laid_loop_example_g01117_impl_errInvalid {H : Type} : DataW H := .iface "*errors.errorString" (.ptr (.agg [.lit (.string [116, 104, 101, 32, 109, 111, 100, 117, 108, 117, 115, 32, 105, 115, 32, 110, 111, 32, 112, 114, 105, 109, 101, 32, 111, 102, 32, 97, 32, 102, 105, 101, 108, 100, 44, 32, 111, 114, 32, 97, 32, 108, 105, 115, 116, 32, 105, 115, 32, 110, 111, 32, 99, 117, 114, 118, 101])]))
def laid_loop_example_g01117_impl_errRange {H : Type} : DataW H := .iface "*errors.errorString" (.ptr (.agg [.lit (.string [97, 32, 110, 117, 109, 98, 101, 114, 32, 111, 114, 32, 97, 32, 108, 105, 115, 116, 32, 105, 115, 32, 110, 111, 116, 32, 119, 104, 97, 116, 32, 105, 116, 32, 104, 97, 115, 32, 116, 111, 32, 98, 101])]))
def laid_loop_example_g01117_impl_errState {H : Type} : DataW H := .iface "*errors.errorString" (.ptr (.agg [.lit (.string [116, 104, 101, 114, 101, 32, 97, 114, 101, 32, 116, 111, 111, 32, 102, 101, 119, 32, 110, 117, 109, 98, 101, 114, 115, 44, 32, 111, 114, 32, 116, 104, 101, 121, 32, 100, 111, 32, 110, 111, 116, 32, 102, 105, 116, 32, 116, 111, 103, 101, 116, 104, 101, 114])]))

/-- 'laws.FnExactTableText': WHATEVER THE INPUT: true; the input reads as it did. -/
def fnExactTableTextSpec : ChangeSpec := { name := "fnExactTableText", fn := fun _ => fun
  | [d] => { results := [.lit (.bool true)], args := [d] }
  | _ => none }
def fnExactTableTextRow : OpenClaim := { program := "ytgndekojodpmkaadoor", sum := "a5a79294b578b5c0fd1733b69b389016dc18855df9e3cf16c70546b74d177d0f", func := "loop.example/g01117/laws.FnExactTableText", spec := "fnExactTableText", inPlace := ["internal/abi.NoEscape"], recurses := true, named := ["internal/strconv.uint64pow10", "math/bits.deBruijn32tab", "math/bits.deBruijn64tab"], apart := false, laid := [("math/bits.deBruijn32tab", laid_math_bits_deBruijn32tab), ("math/bits.deBruijn64tab", laid_math_bits_deBruijn64tab), ("internal/strconv.uint64pow10", laid_internal_strconv_uint64pow10)] }
def FnExactTableTextSaid : Prop := fnExactTableTextRow.holds Tryd.pinned (OpenSpec.ofChange fnExactTableTextSpec)

/-- ITS FALSE NEIGHBOUR: 'it returns false'. Refute it at one input. -/
def fnExactTableTextWrong : ChangeSpec := { name := "fnExactTableText", fn := fun _ => fun
  | [d] => { results := [.lit (.bool false)], args := [d] }
  | _ => none }
def FnExactTableTextWrongFalsely : Prop := fnExactTableTextRow.holds Tryd.pinned (OpenSpec.ofChange fnExactTableTextWrong)

/-- 'laws.FnExactCurveAt': WHATEVER THE INPUT: true; the input reads as it did. -/
def fnExactCurveAtSpec : ChangeSpec := { name := "fnExactCurveAt", vars := ["loop.example/g01117/impl.errInvalid", "loop.example/g01117/impl.errRange", "loop.example/g01117/impl.errState"], fn := fun _ => fun
  | [d1, d2, d3, g1, g2, g3] => { results := [.lit (.bool true)], args := [d1, d2, d3], vars := [g1, g2, g3] }
  | _ => none }
def fnExactCurveAtRow : OpenClaim := { program := "ytgndekojodpmkaadoor", sum := "a5a79294b578b5c0fd1733b69b389016dc18855df9e3cf16c70546b74d177d0f", func := "loop.example/g01117/laws.FnExactCurveAt", spec := "fnExactCurveAt", inPlace := ["internal/reflectlite.ValueOf", "(internal/reflectlite.Value).Type", "(internal/reflectlite.Value).IsNil", "internal/reflectlite.TypeOf", "(internal/reflectlite.Value).Elem", "(internal/reflectlite.Value).Set"], unfollowed := true, recurses := true, named := ["loop.example/g01117/impl.errInvalid", "loop.example/g01117/impl.errRange", "loop.example/g01117/impl.errState", "errors.errorType"], ifaces := true, apart := false, laid := [("errors.errorType", laid_errors_errorType), ("loop.example/g01117/impl.errInvalid", laid_loop_example_g01117_impl_errInvalid), ("loop.example/g01117/impl.errRange", laid_loop_example_g01117_impl_errRange), ("loop.example/g01117/impl.errState", laid_loop_example_g01117_impl_errState)] }
def FnExactCurveAtSaid : Prop := fnExactCurveAtRow.holds Tryd.pinned (OpenSpec.ofChange fnExactCurveAtSpec)

/-- ITS FALSE NEIGHBOUR: 'it returns false'. Refute it at one input. -/
def fnExactCurveAtWrong : ChangeSpec := { name := "fnExactCurveAt", vars := ["loop.example/g01117/impl.errInvalid", "loop.example/g01117/impl.errRange", "loop.example/g01117/impl.errState"], fn := fun _ => fun
  | [d1, d2, d3, g1, g2, g3] => { results := [.lit (.bool false)], args := [d1, d2, d3], vars := [g1, g2, g3] }
  | _ => none }
def FnExactCurveAtWrongFalsely : Prop := fnExactCurveAtRow.holds Tryd.pinned (OpenSpec.ofChange fnExactCurveAtWrong)

/-- 'laws.FnExactValidShares': WHATEVER THE INPUT: true; the input reads as it did. -/
def fnExactValidSharesSpec : ChangeSpec := { name := "fnExactValidShares", vars := ["loop.example/g01117/impl.errInvalid", "loop.example/g01117/impl.errRange"], fn := fun _ => fun
  | [d1, d2, g1, g2] => { results := [.lit (.bool true)], args := [d1, d2], vars := [g1, g2] }
  | _ => none }
def fnExactValidSharesRow : OpenClaim := { program := "ytgndekojodpmkaadoor", sum := "a5a79294b578b5c0fd1733b69b389016dc18855df9e3cf16c70546b74d177d0f", func := "loop.example/g01117/laws.FnExactValidShares", spec := "fnExactValidShares", named := ["loop.example/g01117/impl.errInvalid", "loop.example/g01117/impl.errRange"], ifaces := true, apart := false, laid := [("loop.example/g01117/impl.errInvalid", laid_loop_example_g01117_impl_errInvalid), ("loop.example/g01117/impl.errRange", laid_loop_example_g01117_impl_errRange)] }
def FnExactValidSharesSaid : Prop := fnExactValidSharesRow.holds Tryd.pinned (OpenSpec.ofChange fnExactValidSharesSpec)

/-- ITS FALSE NEIGHBOUR: 'it returns false'. Refute it at one input. -/
def fnExactValidSharesWrong : ChangeSpec := { name := "fnExactValidShares", vars := ["loop.example/g01117/impl.errInvalid", "loop.example/g01117/impl.errRange"], fn := fun _ => fun
  | [d1, d2, g1, g2] => { results := [.lit (.bool false)], args := [d1, d2], vars := [g1, g2] }
  | _ => none }
def FnExactValidSharesWrongFalsely : Prop := fnExactValidSharesRow.holds Tryd.pinned (OpenSpec.ofChange fnExactValidSharesWrong)

/-- 'laws.FnExactAddCurves': WHATEVER THE INPUT: true; the input reads as it did. -/
def fnExactAddCurvesSpec : ChangeSpec := { name := "fnExactAddCurves", vars := ["loop.example/g01117/impl.errInvalid", "loop.example/g01117/impl.errState"], fn := fun _ => fun
  | [d1, d2, d3, g1, g2] => { results := [.lit (.bool true)], args := [d1, d2, d3], vars := [g1, g2] }
  | _ => none }
def fnExactAddCurvesRow : OpenClaim := { program := "ytgndekojodpmkaadoor", sum := "a5a79294b578b5c0fd1733b69b389016dc18855df9e3cf16c70546b74d177d0f", func := "loop.example/g01117/laws.FnExactAddCurves", spec := "fnExactAddCurves", inPlace := ["internal/reflectlite.ValueOf", "(internal/reflectlite.Value).Type", "(internal/reflectlite.Value).IsNil", "internal/reflectlite.TypeOf", "(internal/reflectlite.Value).Elem", "(internal/reflectlite.Value).Set"], unfollowed := true, recurses := true, named := ["loop.example/g01117/impl.errInvalid", "loop.example/g01117/impl.errState", "errors.errorType"], ifaces := true, apart := false, laid := [("errors.errorType", laid_errors_errorType), ("loop.example/g01117/impl.errInvalid", laid_loop_example_g01117_impl_errInvalid), ("loop.example/g01117/impl.errState", laid_loop_example_g01117_impl_errState)] }
def FnExactAddCurvesSaid : Prop := fnExactAddCurvesRow.holds Tryd.pinned (OpenSpec.ofChange fnExactAddCurvesSpec)

/-- ITS FALSE NEIGHBOUR: 'it returns false'. Refute it at one input. -/
def fnExactAddCurvesWrong : ChangeSpec := { name := "fnExactAddCurves", vars := ["loop.example/g01117/impl.errInvalid", "loop.example/g01117/impl.errState"], fn := fun _ => fun
  | [d1, d2, d3, g1, g2] => { results := [.lit (.bool false)], args := [d1, d2, d3], vars := [g1, g2] }
  | _ => none }
def FnExactAddCurvesWrongFalsely : Prop := fnExactAddCurvesRow.holds Tryd.pinned (OpenSpec.ofChange fnExactAddCurvesWrong)

/-- 'laws.FnExactScaleCurve': WHATEVER THE INPUT: true; the input reads as it did. -/
def fnExactScaleCurveSpec : ChangeSpec := { name := "fnExactScaleCurve", vars := ["loop.example/g01117/impl.errInvalid", "loop.example/g01117/impl.errRange", "loop.example/g01117/impl.errState"], fn := fun _ => fun
  | [d1, d2, d3, g1, g2, g3] => { results := [.lit (.bool true)], args := [d1, d2, d3], vars := [g1, g2, g3] }
  | _ => none }
def fnExactScaleCurveRow : OpenClaim := { program := "ytgndekojodpmkaadoor", sum := "a5a79294b578b5c0fd1733b69b389016dc18855df9e3cf16c70546b74d177d0f", func := "loop.example/g01117/laws.FnExactScaleCurve", spec := "fnExactScaleCurve", inPlace := ["internal/reflectlite.ValueOf", "(internal/reflectlite.Value).Type", "(internal/reflectlite.Value).IsNil", "internal/reflectlite.TypeOf", "(internal/reflectlite.Value).Elem", "(internal/reflectlite.Value).Set"], unfollowed := true, recurses := true, named := ["loop.example/g01117/impl.errInvalid", "loop.example/g01117/impl.errRange", "loop.example/g01117/impl.errState", "errors.errorType"], ifaces := true, apart := false, laid := [("errors.errorType", laid_errors_errorType), ("loop.example/g01117/impl.errInvalid", laid_loop_example_g01117_impl_errInvalid), ("loop.example/g01117/impl.errRange", laid_loop_example_g01117_impl_errRange), ("loop.example/g01117/impl.errState", laid_loop_example_g01117_impl_errState)] }
def FnExactScaleCurveSaid : Prop := fnExactScaleCurveRow.holds Tryd.pinned (OpenSpec.ofChange fnExactScaleCurveSpec)

/-- ITS FALSE NEIGHBOUR: 'it returns false'. Refute it at one input. -/
def fnExactScaleCurveWrong : ChangeSpec := { name := "fnExactScaleCurve", vars := ["loop.example/g01117/impl.errInvalid", "loop.example/g01117/impl.errRange", "loop.example/g01117/impl.errState"], fn := fun _ => fun
  | [d1, d2, d3, g1, g2, g3] => { results := [.lit (.bool false)], args := [d1, d2, d3], vars := [g1, g2, g3] }
  | _ => none }
def FnExactScaleCurveWrongFalsely : Prop := fnExactScaleCurveRow.holds Tryd.pinned (OpenSpec.ofChange fnExactScaleCurveWrong)

/-- 'laws.FnExactDealShares': WHATEVER THE INPUT: true; the input reads as it did. -/
def fnExactDealSharesSpec : ChangeSpec := { name := "fnExactDealShares", vars := ["loop.example/g01117/impl.errInvalid", "loop.example/g01117/impl.errRange", "loop.example/g01117/impl.errState"], fn := fun _ => fun
  | [d1, d2, d3, g1, g2, g3] => { results := [.lit (.bool true)], args := [d1, d2, d3], vars := [g1, g2, g3] }
  | _ => none }
def fnExactDealSharesRow : OpenClaim := { program := "ytgndekojodpmkaadoor", sum := "a5a79294b578b5c0fd1733b69b389016dc18855df9e3cf16c70546b74d177d0f", func := "loop.example/g01117/laws.FnExactDealShares", spec := "fnExactDealShares", inPlace := ["internal/reflectlite.ValueOf", "(internal/reflectlite.Value).Type", "(internal/reflectlite.Value).IsNil", "internal/reflectlite.TypeOf", "(internal/reflectlite.Value).Elem", "(internal/reflectlite.Value).Set"], unfollowed := true, recurses := true, named := ["loop.example/g01117/impl.errInvalid", "loop.example/g01117/impl.errRange", "loop.example/g01117/impl.errState", "errors.errorType"], ifaces := true, apart := false, laid := [("errors.errorType", laid_errors_errorType), ("loop.example/g01117/impl.errInvalid", laid_loop_example_g01117_impl_errInvalid), ("loop.example/g01117/impl.errRange", laid_loop_example_g01117_impl_errRange), ("loop.example/g01117/impl.errState", laid_loop_example_g01117_impl_errState)] }
def FnExactDealSharesSaid : Prop := fnExactDealSharesRow.holds Tryd.pinned (OpenSpec.ofChange fnExactDealSharesSpec)

/-- ITS FALSE NEIGHBOUR: 'it returns false'. Refute it at one input. -/
def fnExactDealSharesWrong : ChangeSpec := { name := "fnExactDealShares", vars := ["loop.example/g01117/impl.errInvalid", "loop.example/g01117/impl.errRange", "loop.example/g01117/impl.errState"], fn := fun _ => fun
  | [d1, d2, d3, g1, g2, g3] => { results := [.lit (.bool false)], args := [d1, d2, d3], vars := [g1, g2, g3] }
  | _ => none }
def FnExactDealSharesWrongFalsely : Prop := fnExactDealSharesRow.holds Tryd.pinned (OpenSpec.ofChange fnExactDealSharesWrong)

/- THE SECOND FORM. 'bulk': how many values and letters a reading holds, each counted each time it is reached (what is shared counts as often as it is met; a slice's spare places count too). A statement '..UptoSaid' is the law's where the arguments, and the package variables that the reading takes, are together of bulk at most 1048576: NARROWER than '..Said'. Prove '..Said' where nothing that the law and all that it calls make is longer than what came in: it says more and counts as full. Else prove '..UptoSaid'. A law counts once. -/
mutual
def uptoBulk {H : Type} : DataW H → Nat
  | .lit (.string bytes) => bytes.length + 1
  | .lit _ => 1
  | .nil => 1
  | .ptr d => uptoBulk d + 1
  | .slice elems spare => uptoBulkAll elems + uptoBulkAll spare + 1
  | .agg parts => uptoBulkAll parts + 1
  | .iface _ d => uptoBulk d + 1
  | .map entries => uptoBulkEntries entries + 1
  | .held _ => 1
def uptoBulkAll {H : Type} : List (DataW H) → Nat
  | [] => 0
  | d :: r => uptoBulk d + uptoBulkAll r
def uptoBulkEntries {H : Type} : List (Lit × DataW H) → Nat
  | [] => 0
  | x :: r => uptoBulkEntry x + uptoBulkEntries r
def uptoBulkEntry {H : Type} : Lit × DataW H → Nat
  | (.string bytes, d) => bytes.length + uptoBulk d + 1
  | (_, d) => uptoBulk d + 1
 end
def uptoSmall : (H : Type) → List (DataW H) → Bool := fun _ ds => decide (uptoBulkAll ds ≤ 1048576)
def OpenSpec.upto (s : _root_.Go.ChangeSpec) : _root_.Go.OpenSpec := { _root_.Go.OpenSpec.ofChange s with cond := some uptoSmall }

/-- 'laws.FnExactTableText', WHERE WHAT IT READS IS OF BULK AT MOST 1048576: true; the input reads as it did. -/
def fnExactTableTextUptoRow : OpenClaim := { program := "ytgndekojodpmkaadoor", sum := "a5a79294b578b5c0fd1733b69b389016dc18855df9e3cf16c70546b74d177d0f", func := "loop.example/g01117/laws.FnExactTableText", spec := "fnExactTableText", inPlace := ["internal/abi.NoEscape"], recurses := true, named := ["internal/strconv.uint64pow10", "math/bits.deBruijn32tab", "math/bits.deBruijn64tab"], apart := false, laid := [("math/bits.deBruijn32tab", laid_math_bits_deBruijn32tab), ("math/bits.deBruijn64tab", laid_math_bits_deBruijn64tab), ("internal/strconv.uint64pow10", laid_internal_strconv_uint64pow10)], narrowed := true }
def FnExactTableTextUptoSaid : Prop := fnExactTableTextUptoRow.holds Tryd.pinned (OpenSpec.upto fnExactTableTextSpec)

/-- 'laws.FnExactCurveAt', WHERE WHAT IT READS IS OF BULK AT MOST 1048576: true; the input reads as it did. -/
def fnExactCurveAtUptoRow : OpenClaim := { program := "ytgndekojodpmkaadoor", sum := "a5a79294b578b5c0fd1733b69b389016dc18855df9e3cf16c70546b74d177d0f", func := "loop.example/g01117/laws.FnExactCurveAt", spec := "fnExactCurveAt", inPlace := ["internal/reflectlite.ValueOf", "(internal/reflectlite.Value).Type", "(internal/reflectlite.Value).IsNil", "internal/reflectlite.TypeOf", "(internal/reflectlite.Value).Elem", "(internal/reflectlite.Value).Set"], unfollowed := true, recurses := true, named := ["loop.example/g01117/impl.errInvalid", "loop.example/g01117/impl.errRange", "loop.example/g01117/impl.errState", "errors.errorType"], ifaces := true, apart := false, laid := [("errors.errorType", laid_errors_errorType), ("loop.example/g01117/impl.errInvalid", laid_loop_example_g01117_impl_errInvalid), ("loop.example/g01117/impl.errRange", laid_loop_example_g01117_impl_errRange), ("loop.example/g01117/impl.errState", laid_loop_example_g01117_impl_errState)], narrowed := true }
def FnExactCurveAtUptoSaid : Prop := fnExactCurveAtUptoRow.holds Tryd.pinned (OpenSpec.upto fnExactCurveAtSpec)

/-- 'laws.FnExactValidShares', WHERE WHAT IT READS IS OF BULK AT MOST 1048576: true; the input reads as it did. -/
def fnExactValidSharesUptoRow : OpenClaim := { program := "ytgndekojodpmkaadoor", sum := "a5a79294b578b5c0fd1733b69b389016dc18855df9e3cf16c70546b74d177d0f", func := "loop.example/g01117/laws.FnExactValidShares", spec := "fnExactValidShares", named := ["loop.example/g01117/impl.errInvalid", "loop.example/g01117/impl.errRange"], ifaces := true, apart := false, laid := [("loop.example/g01117/impl.errInvalid", laid_loop_example_g01117_impl_errInvalid), ("loop.example/g01117/impl.errRange", laid_loop_example_g01117_impl_errRange)], narrowed := true }
def FnExactValidSharesUptoSaid : Prop := fnExactValidSharesUptoRow.holds Tryd.pinned (OpenSpec.upto fnExactValidSharesSpec)

/-- 'laws.FnExactAddCurves', WHERE WHAT IT READS IS OF BULK AT MOST 1048576: true; the input reads as it did. -/
def fnExactAddCurvesUptoRow : OpenClaim := { program := "ytgndekojodpmkaadoor", sum := "a5a79294b578b5c0fd1733b69b389016dc18855df9e3cf16c70546b74d177d0f", func := "loop.example/g01117/laws.FnExactAddCurves", spec := "fnExactAddCurves", inPlace := ["internal/reflectlite.ValueOf", "(internal/reflectlite.Value).Type", "(internal/reflectlite.Value).IsNil", "internal/reflectlite.TypeOf", "(internal/reflectlite.Value).Elem", "(internal/reflectlite.Value).Set"], unfollowed := true, recurses := true, named := ["loop.example/g01117/impl.errInvalid", "loop.example/g01117/impl.errState", "errors.errorType"], ifaces := true, apart := false, laid := [("errors.errorType", laid_errors_errorType), ("loop.example/g01117/impl.errInvalid", laid_loop_example_g01117_impl_errInvalid), ("loop.example/g01117/impl.errState", laid_loop_example_g01117_impl_errState)], narrowed := true }
def FnExactAddCurvesUptoSaid : Prop := fnExactAddCurvesUptoRow.holds Tryd.pinned (OpenSpec.upto fnExactAddCurvesSpec)

/-- 'laws.FnExactScaleCurve', WHERE WHAT IT READS IS OF BULK AT MOST 1048576: true; the input reads as it did. -/
def fnExactScaleCurveUptoRow : OpenClaim := { program := "ytgndekojodpmkaadoor", sum := "a5a79294b578b5c0fd1733b69b389016dc18855df9e3cf16c70546b74d177d0f", func := "loop.example/g01117/laws.FnExactScaleCurve", spec := "fnExactScaleCurve", inPlace := ["internal/reflectlite.ValueOf", "(internal/reflectlite.Value).Type", "(internal/reflectlite.Value).IsNil", "internal/reflectlite.TypeOf", "(internal/reflectlite.Value).Elem", "(internal/reflectlite.Value).Set"], unfollowed := true, recurses := true, named := ["loop.example/g01117/impl.errInvalid", "loop.example/g01117/impl.errRange", "loop.example/g01117/impl.errState", "errors.errorType"], ifaces := true, apart := false, laid := [("errors.errorType", laid_errors_errorType), ("loop.example/g01117/impl.errInvalid", laid_loop_example_g01117_impl_errInvalid), ("loop.example/g01117/impl.errRange", laid_loop_example_g01117_impl_errRange), ("loop.example/g01117/impl.errState", laid_loop_example_g01117_impl_errState)], narrowed := true }
def FnExactScaleCurveUptoSaid : Prop := fnExactScaleCurveUptoRow.holds Tryd.pinned (OpenSpec.upto fnExactScaleCurveSpec)

/-- 'laws.FnExactDealShares', WHERE WHAT IT READS IS OF BULK AT MOST 1048576: true; the input reads as it did. -/
def fnExactDealSharesUptoRow : OpenClaim := { program := "ytgndekojodpmkaadoor", sum := "a5a79294b578b5c0fd1733b69b389016dc18855df9e3cf16c70546b74d177d0f", func := "loop.example/g01117/laws.FnExactDealShares", spec := "fnExactDealShares", inPlace := ["internal/reflectlite.ValueOf", "(internal/reflectlite.Value).Type", "(internal/reflectlite.Value).IsNil", "internal/reflectlite.TypeOf", "(internal/reflectlite.Value).Elem", "(internal/reflectlite.Value).Set"], unfollowed := true, recurses := true, named := ["loop.example/g01117/impl.errInvalid", "loop.example/g01117/impl.errRange", "loop.example/g01117/impl.errState", "errors.errorType"], ifaces := true, apart := false, laid := [("errors.errorType", laid_errors_errorType), ("loop.example/g01117/impl.errInvalid", laid_loop_example_g01117_impl_errInvalid), ("loop.example/g01117/impl.errRange", laid_loop_example_g01117_impl_errRange), ("loop.example/g01117/impl.errState", laid_loop_example_g01117_impl_errState)], narrowed := true }
def FnExactDealSharesUptoSaid : Prop := fnExactDealSharesUptoRow.holds Tryd.pinned (OpenSpec.upto fnExactDealSharesSpec)

end Rows
end Go.Proofs.YtgndekojodpmkaaDoor

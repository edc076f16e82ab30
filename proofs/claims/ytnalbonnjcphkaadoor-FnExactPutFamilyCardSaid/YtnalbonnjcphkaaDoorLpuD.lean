/- Closed facts of the card of 'laws.FnExactPutFamily'. -/
import Derived.Test.YtnalbonnjcphkaaDoorCp
import Derived.Test.YtnalbonnjcphkaaDoorCards
import Derived.SevenTiedAt
namespace Go.Proofs.YtnalbonnjcphkaaDoor
namespace Put
set_option maxRecDepth 1000000
set_option maxHeartbeats 100000000
theorem c_named : Tryd.prog.funcNamed "loop.example/g01117/laws.FnExactPutFamily" = some 6 := by kernel_rfl
theorem c_stand : ([24, 2, 24].all fun u => !Tryd.prog.wantsStandIn u) = true := by kernel_rfl
theorem c_wf : Rows.fnExactPutFamilyRow.wfByText (OpenSpec.ofChange Rows.fnExactPutFamilySpec) = true := by kernel_rfl
theorem c_main : Tryd.pinned.checked.prog.mainIs = some (true, "c5624cacd2eb9a535e74fc43c546593ef0846989ea0ec88f538f7f6300197e0b".toList) := by kernel_rfl
theorem c_goes : false = Rows.fnExactPutFamilyRow.goesBy Tryd.pinned.checked.prog := by kernel_rfl
end Put
end Go.Proofs.YtnalbonnjcphkaaDoor

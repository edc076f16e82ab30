/- Closed facts of the card of 'laws.FnOpens'. -/
import Derived.Test.YteifllengcacbaaDoorCpf
import Derived.Test.YteifllengcacbaaDoorCards
import Derived.SevenTiedAt
namespace Go.Proofs.YteifllengcacbaaDoor
namespace Opens
set_option maxRecDepth 1000000
set_option maxHeartbeats 100000000
theorem c_named : Tryd.prog.funcNamed "loop.example/g01117/laws.FnOpens" = some 3 := by kernel_rfl
theorem c_stand : ([22, 22].all fun u => !Tryd.prog.wantsStandIn u) = true := by kernel_rfl
theorem c_wf : Rows.fnOpensRow.wfByText (OpenSpec.ofChange Rows.fnOpensSpec) = true := by kernel_rfl
theorem c_main : Tryd.pinned.checked.prog.mainIs = some (true, "6e409f8567a90cbadb9cb177e9d24eb4bf8a9e643d41676aabbeec681e6929fc".toList) := by kernel_rfl
theorem c_goes : false = Rows.fnOpensRow.goesBy Tryd.pinned.checked.prog := by kernel_rfl
end Opens
end Go.Proofs.YteifllengcacbaaDoor

/- Closed facts of the card of 'laws.FnExactDeedText'. -/
import Derived.Test.YthmjcmhaijiedaaDoorCp
import Derived.Test.YthmjcmhaijiedaaDoorCards
import Derived.SevenTiedAt
namespace Go.Proofs.YthmjcmhaijiedaaDoor
namespace Dtx
set_option maxRecDepth 1000000
set_option maxHeartbeats 100000000
theorem c_named : Tryd.prog.funcNamed "loop.example/g01117/laws.FnExactDeedText" = some 6 := by kernel_rfl
theorem c_stand : ([46].all fun u => !Tryd.prog.wantsStandIn u) = true := by kernel_rfl
theorem c_wf : Rows.fnExactDeedTextRow.wfByText (OpenSpec.ofChange Rows.fnExactDeedTextSpec) = true := by kernel_rfl
theorem c_main : Tryd.pinned.checked.prog.mainIs = some (true, "f48df78f8f1649faf1f9d3efbd8459940163dd170a5d224d8aad52d8ef0116e5".toList) := by kernel_rfl
theorem c_goes : false = Rows.fnExactDeedTextRow.goesBy Tryd.pinned.checked.prog := by kernel_rfl
end Dtx
end Go.Proofs.YthmjcmhaijiedaaDoor

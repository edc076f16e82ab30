/- Closed facts of the card of 'laws.FnExactTrustHolder'. -/
import Derived.Test.YtpkflamhniidiaaDoorCp
import Derived.Test.YtpkflamhniidiaaDoorCards
import Derived.SevenTiedAt
namespace Go.Proofs.YtpkflamhniidiaaDoor
namespace LTr
set_option maxRecDepth 1000000
set_option maxHeartbeats 100000000
theorem c_named : Tryd.prog.funcNamed "loop.example/g01117/laws.FnExactTrustHolder" = some 12 := by kernel_rfl
theorem c_stand : ([24, 2].all fun u => !Tryd.prog.wantsStandIn u) = true := by kernel_rfl
theorem c_wf : Rows.fnExactTrustHolderRow.wfByText (OpenSpec.ofChange Rows.fnExactTrustHolderSpec) = true := by kernel_rfl
theorem c_main : Tryd.pinned.checked.prog.mainIs = some (true, "5b23cf5111eb44403eb268a2186d962d74f198792e1b76a0e82b0b20f7b1d231".toList) := by kernel_rfl
theorem c_goes : false = Rows.fnExactTrustHolderRow.goesBy Tryd.pinned.checked.prog := by kernel_rfl
end LTr
end Go.Proofs.YtpkflamhniidiaaDoor

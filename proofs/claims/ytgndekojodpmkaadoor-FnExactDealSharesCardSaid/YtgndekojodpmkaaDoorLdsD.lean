/- Closed facts of the card of 'laws.FnExactDealShares'. -/
import Derived.Test.YtgndekojodpmkaaDoorCp
import Derived.Test.YtgndekojodpmkaaDoorCards
import Derived.SevenTiedAt
namespace Go.Proofs.YtgndekojodpmkaaDoor
namespace DealShares
set_option maxRecDepth 1000000
set_option maxHeartbeats 100000000
theorem c_named : Tryd.prog.funcNamed "loop.example/g01117/laws.FnExactDealShares" = some 8 := by kernel_rfl
theorem c_stand : ([2, 22, 22].all fun u => !Tryd.prog.wantsStandIn u) = true := by kernel_rfl
theorem c_wf : Rows.fnExactDealSharesRow.wfByText (OpenSpec.ofChange Rows.fnExactDealSharesSpec) = true := by kernel_rfl
theorem c_main : Tryd.pinned.checked.prog.mainIs = some (true, "2e438c67e39f12ed501cd1b226b5d5533e2367f4bfa2db34c9a5deb99bef8057".toList) := by kernel_rfl
theorem c_goes : false = Rows.fnExactDealSharesRow.goesBy Tryd.pinned.checked.prog := by kernel_rfl
end DealShares
end Go.Proofs.YtgndekojodpmkaaDoor

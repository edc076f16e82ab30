/- Closed facts of the card of 'laws.FnExactValidShares'. -/
import Derived.Test.YtgndekojodpmkaaDoorCp
import Derived.Test.YtgndekojodpmkaaDoorCards
import Derived.SevenTiedAt
namespace Go.Proofs.YtgndekojodpmkaaDoor
namespace ValidShares
set_option maxRecDepth 1000000
set_option maxHeartbeats 100000000
theorem c_named : Tryd.prog.funcNamed "loop.example/g01117/laws.FnExactValidShares" = some 5 := by kernel_rfl
theorem c_stand : ([2, 39].all fun u => !Tryd.prog.wantsStandIn u) = true := by kernel_rfl
theorem c_wf : Rows.fnExactValidSharesRow.wfByText (OpenSpec.ofChange Rows.fnExactValidSharesSpec) = true := by kernel_rfl
theorem c_main : Tryd.pinned.checked.prog.mainIs = some (true, "2e438c67e39f12ed501cd1b226b5d5533e2367f4bfa2db34c9a5deb99bef8057".toList) := by kernel_rfl
theorem c_goes : false = Rows.fnExactValidSharesRow.goesBy Tryd.pinned.checked.prog := by kernel_rfl
end ValidShares
end Go.Proofs.YtgndekojodpmkaaDoor

/- Closed facts of the card of 'laws.FnExactRanksText'. -/
import Derived.Test.YtdfggbojccfblaaDoorCp
import Derived.Test.YtdfggbojccfblaaDoorCards
import Derived.SevenTiedAt
namespace Go.Proofs.YtdfggbojccfblaaDoor
namespace Rtx
set_option maxRecDepth 1000000
set_option maxHeartbeats 100000000
theorem c_named : Tryd.prog.funcNamed "loop.example/g01117/laws.FnExactRanksText" = some 3 := by kernel_rfl
theorem c_stand : ([24].all fun u => !Tryd.prog.wantsStandIn u) = true := by kernel_rfl
theorem c_wf : Rows.fnExactRanksTextRow.wfByText (OpenSpec.ofChange Rows.fnExactRanksTextSpec) = true := by kernel_rfl
theorem c_main : Tryd.pinned.checked.prog.mainIs = some (true, "6d61294b2565dd4bf07e02aaddad75f1f1aa0462d47ae4ecb21146bed553dcd6".toList) := by kernel_rfl
theorem c_goes : false = Rows.fnExactRanksTextRow.goesBy Tryd.pinned.checked.prog := by kernel_rfl
end Rtx
end Go.Proofs.YtdfggbojccfblaaDoor

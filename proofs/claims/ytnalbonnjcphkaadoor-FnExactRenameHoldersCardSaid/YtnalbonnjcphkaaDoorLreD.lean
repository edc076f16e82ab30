/- Closed facts of the card of 'laws.FnExactRenameHolders'. -/
import Derived.Test.YtnalbonnjcphkaaDoorCp
import Derived.Test.YtnalbonnjcphkaaDoorCards
import Derived.SevenTiedAt
namespace Go.Proofs.YtnalbonnjcphkaaDoor
namespace Rename
set_option maxRecDepth 1000000
set_option maxHeartbeats 100000000
theorem c_named : Tryd.prog.funcNamed "loop.example/g01117/laws.FnExactRenameHolders" = some 5 := by kernel_rfl
theorem c_stand : ([24, 33].all fun u => !Tryd.prog.wantsStandIn u) = true := by kernel_rfl
theorem c_wf : Rows.fnExactRenameHoldersRow.wfByText (OpenSpec.ofChange Rows.fnExactRenameHoldersSpec) = true := by kernel_rfl
theorem c_main : Tryd.pinned.checked.prog.mainIs = some (true, "c5624cacd2eb9a535e74fc43c546593ef0846989ea0ec88f538f7f6300197e0b".toList) := by kernel_rfl
theorem c_goes : false = Rows.fnExactRenameHoldersRow.goesBy Tryd.pinned.checked.prog := by kernel_rfl
end Rename
end Go.Proofs.YtnalbonnjcphkaaDoor

/- Closed facts of the card of 'laws.FnExactMatrixText'. -/
import Derived.Test.YtedjildahjefkaaDoorCpf
import Derived.Test.YtedjildahjefkaaDoorCards
import Derived.SevenTiedAt
namespace Go.Proofs.YtedjildahjefkaaDoor
namespace MatrixText
set_option maxRecDepth 1000000
set_option maxHeartbeats 100000000
theorem c_named : Tryd.prog.funcNamed "loop.example/g01117/laws.FnExactMatrixText" = some 3 := by kernel_rfl
theorem c_stand : ([24].all fun u => !Tryd.prog.wantsStandIn u) = true := by kernel_rfl
theorem c_wf : Rows.fnExactMatrixTextRow.wfByText (OpenSpec.ofChange Rows.fnExactMatrixTextSpec) = true := by kernel_rfl
theorem c_main : Tryd.pinned.checked.prog.mainIs = some (true, "7a7ef60963bcaee7301df2a0b95df7c8ca82db3a2549018c91de94c900f5aeee".toList) := by kernel_rfl
theorem c_goes : false = Rows.fnExactMatrixTextRow.goesBy Tryd.pinned.checked.prog := by kernel_rfl
end MatrixText
end Go.Proofs.YtedjildahjefkaaDoor

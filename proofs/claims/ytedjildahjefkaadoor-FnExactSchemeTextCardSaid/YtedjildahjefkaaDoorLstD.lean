/- Closed facts of the card of 'laws.FnExactSchemeText'. -/
import Derived.Test.YtedjildahjefkaaDoorCpf
import Derived.Test.YtedjildahjefkaaDoorCards
import Derived.SevenTiedAt
namespace Go.Proofs.YtedjildahjefkaaDoor
namespace SchemeText
set_option maxRecDepth 1000000
set_option maxHeartbeats 100000000
theorem c_named : Tryd.prog.funcNamed "loop.example/g01117/laws.FnExactSchemeText" = some 4 := by kernel_rfl
theorem c_stand : ([33].all fun u => !Tryd.prog.wantsStandIn u) = true := by kernel_rfl
theorem c_wf : Rows.fnExactSchemeTextRow.wfByText (OpenSpec.ofChange Rows.fnExactSchemeTextSpec) = true := by kernel_rfl
theorem c_main : Tryd.pinned.checked.prog.mainIs = some (true, "7a7ef60963bcaee7301df2a0b95df7c8ca82db3a2549018c91de94c900f5aeee".toList) := by kernel_rfl
theorem c_goes : false = Rows.fnExactSchemeTextRow.goesBy Tryd.pinned.checked.prog := by kernel_rfl
end SchemeText
end Go.Proofs.YtedjildahjefkaaDoor

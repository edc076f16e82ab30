/- Closed facts of the program as a whole, for all cards. -/
import Derived.Test.YteifllengcacbaaDoorRows
import Derived.JoinedOf
import Derived.SevenTiedAt
namespace Go.Proofs.YteifllengcacbaaDoor
namespace CardP
set_option maxRecDepth 1000000
set_option maxHeartbeats 100000000
theorem own : ownKnob Tryd.prog.godebug = none := by kernel_rfl
theorem laidOut : laidOutB Tryd.prog = true := by kernel_rfl
theorem rowed : mapsRowed Tryd.prog = true := by kernel_rfl
theorem heard : Tryd.prog.stopsHeard = true := by kernel_rfl
theorem enter : Tryd.prog.mayEnter = true := by kernel_rfl
theorem looks : false = Tryd.prog.looks [] := by kernel_rfl
end CardP
end Go.Proofs.YteifllengcacbaaDoor

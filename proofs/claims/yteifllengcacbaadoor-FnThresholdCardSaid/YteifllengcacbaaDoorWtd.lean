/- WeightedFamily, the model's and the program's. -/
import Derived.Test.YteifllengcacbaaDoorThr
import Derived.Test.YteifllengcacbaaDoorThrI
namespace Go.Proofs.YteifllengcacbaaDoor
open Go.RowKit Go.Deep Go.Shelf
set_option linter.unusedVariables false

end Go.Proofs.YteifllengcacbaaDoor

/- The contracts of the laws' own copies: toInt64S, toInt64SS. -/
import Derived.Test.YteifllengcacbaaDoorMem
namespace Go.Proofs.YteifllengcacbaaDoor
open Go.RowKit Go.Deep

end Go.Proofs.YteifllengcacbaaDoor

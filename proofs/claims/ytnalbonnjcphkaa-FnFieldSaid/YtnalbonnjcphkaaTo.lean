/- The contracts of the laws' own copies: toInt64S, toInt64SS. -/
import Derived.Test.YtnalbonnjcphkaaMem
namespace Go.Proofs.Ytnalbonnjcphkaa
open Go.RowKit Go.Deep

end Go.Proofs.Ytnalbonnjcphkaa

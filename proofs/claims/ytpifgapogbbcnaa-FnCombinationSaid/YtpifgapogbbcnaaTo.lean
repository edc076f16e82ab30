/- The contracts of the laws' own copies: toInt64S, toInt64SS. -/
import Derived.Test.YtpifgapogbbcnaaMem
namespace Go.Proofs.Ytpifgapogbbcnaa
open Go.RowKit Go.Deep

end Go.Proofs.Ytpifgapogbbcnaa

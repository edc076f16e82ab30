/- l03Beside of the model. -/
import Derived.Test.YtpifgapogbbcnaaSo0
import Derived.Test.YtpifgapogbbcnaaOw
namespace Go.Proofs.Ytpifgapogbbcnaa
open Go.RowKit Go.Deep
set_option linter.unusedVariables false

end Go.Proofs.Ytpifgapogbbcnaa

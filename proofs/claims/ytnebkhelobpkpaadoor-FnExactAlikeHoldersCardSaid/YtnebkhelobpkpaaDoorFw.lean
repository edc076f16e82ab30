/- The family of a rule: familyWhere. -/
import Derived.Test.YtnebkhelobpkpaaDoorGr
namespace Go.Proofs.YtnebkhelobpkpaaDoor
open Go.RowKit Go.Deep Go.Shelf
set_option linter.unusedVariables false
attribute [local go_sem] Oper.semAt_some

end Go.Proofs.YtnebkhelobpkpaaDoor

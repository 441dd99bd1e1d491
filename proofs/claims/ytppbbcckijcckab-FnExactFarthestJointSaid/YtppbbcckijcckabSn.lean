/- Contracts: how many meetings there are, in the model. -/
import Derived.Test.YtppbbcckijcckabSm
import Derived.Deep.QuietTactic
import Derived.BigQuiet
namespace Go.Proofs.Ytppbbcckijcckab
open Go.ChangeShapes Go.WideShapes Go.ChangeAt Go.RowKit

set_option linter.unusedVariables false

end Go.Proofs.Ytppbbcckijcckab

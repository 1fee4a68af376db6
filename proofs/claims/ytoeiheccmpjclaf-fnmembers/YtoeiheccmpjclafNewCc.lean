/- What impl's CcOk answers; what spec's and impl's NewCc answer. -/
import Derived.Test.YtoeiheccmpjclafCcOk
namespace Go.Proofs.Ytoeiheccmpjclaf
open Go.ChangeShapes Go.WideShapes Go.ChangeAt Go.RowKit
set_option maxRecDepth 100000
set_option linter.unusedVariables false

end Go.Proofs.Ytoeiheccmpjclaf

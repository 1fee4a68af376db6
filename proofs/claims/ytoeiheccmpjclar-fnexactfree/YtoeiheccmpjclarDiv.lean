/- What impl.divide answers: the quotient where it is at most 2^63 - 1, and whether it is; only new memory is touched. -/
import Derived.Test.YtoeiheccmpjclarMul
import Derived.Test.YtoeiheccmpjclarBits
namespace Go.Proofs.Ytoeiheccmpjclar
open Go.ChangeShapes Go.WideShapes Go.ChangeAt Go.RowKit
set_option maxRecDepth 100000
set_option linter.unusedVariables false

end Go.Proofs.Ytoeiheccmpjclar

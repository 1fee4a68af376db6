/- The laws' sizes, comparisons and marks of Probes. -/
import Derived.Test.YtiibafphgjlffaePrb
namespace Go.Proofs.Ytiibafphgjlffae
open Go.ChangeShapes Go.WideShapes Go.ChangeAt Go.RowKit
set_option maxRecDepth 100000
set_option linter.unusedVariables false
set_option linter.unusedSimpArgs false

end Go.Proofs.Ytiibafphgjlffae

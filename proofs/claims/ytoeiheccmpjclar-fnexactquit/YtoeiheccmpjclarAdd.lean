/- What impl.Add and spec.Add answer: the sum, held at its bounds; no memory is touched. -/
import Derived.Test.YtoeiheccmpjclarRows
import Derived.WalkKit
import Derived.ProofKit
import Derived.OpenShut
import Derived.Test.YtoeiheccmpjclarMath
import Derived.Test.YtoeiheccmpjclarGrpB
namespace Go.Proofs.Ytoeiheccmpjclar
open Go.ChangeShapes Go.WideShapes Go.ChangeAt Go.RowKit
set_option maxRecDepth 100000
set_option linter.unusedVariables false

end Go.Proofs.Ytoeiheccmpjclar

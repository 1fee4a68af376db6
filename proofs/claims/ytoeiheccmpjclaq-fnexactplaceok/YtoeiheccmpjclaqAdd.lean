/- What impl.Add and spec.Add answer: the sum, held at its bounds; no memory is touched. -/
import Derived.Test.YtoeiheccmpjclaqRows
import Derived.WalkKit
import Derived.ProofKit
import Derived.OpenShut
import Derived.Test.YtoeiheccmpjclaqMath
import Derived.Test.YtoeiheccmpjclaqBits
namespace Go.Proofs.Ytoeiheccmpjclaq
open Go.ChangeShapes Go.WideShapes Go.ChangeAt Go.RowKit
set_option maxRecDepth 100000
set_option linter.unusedVariables false

end Go.Proofs.Ytoeiheccmpjclaq

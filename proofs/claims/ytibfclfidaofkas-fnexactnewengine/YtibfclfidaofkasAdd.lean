/- What impl.Add and spec.Add answer: the sum, held at its bounds; no memory is touched. -/
import Derived.Test.YtibfclfidaofkasRows
import Derived.WalkKit
import Derived.ProofKit
import Derived.OpenShut
import Derived.Test.YtibfclfidaofkasMath
import Derived.Test.YtibfclfidaofkasGrpB
namespace Go.Proofs.Ytibfclfidaofkas
open Go.ChangeShapes Go.WideShapes Go.ChangeAt Go.RowKit
set_option maxRecDepth 100000
set_option linter.unusedVariables false

end Go.Proofs.Ytibfclfidaofkas

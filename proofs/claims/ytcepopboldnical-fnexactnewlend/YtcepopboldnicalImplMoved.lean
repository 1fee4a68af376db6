/- What impl.movedTo does: each bucket reset by another tree, at a time. -/
import Derived.Test.YtcepopboldnicalImplFull
import Derived.Test.YtcepopboldnicalGrpN
namespace Go.Proofs.Ytcepopboldnical
open Go.ChangeShapes Go.WideShapes Go.ChangeAt Go.RowKit
set_option maxRecDepth 100000
set_option linter.unusedVariables false
set_option linter.unusedSimpArgs false

end Go.Proofs.Ytcepopboldnical

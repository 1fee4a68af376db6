/- What spec.l7Ask answers: the place on the path of who lends. -/
import Derived.Test.YtcepopboldnicalLendMath
import Derived.Test.YtcepopboldnicalLendV
import Derived.Test.YtcepopboldnicalSpecTree
import Derived.Test.YtcepopboldnicalIntsLaw
import Derived.BigQuiet
import Derived.Deep.QuietTactic
namespace Go.Proofs.Ytcepopboldnical
open Go.ChangeShapes Go.WideShapes Go.ChangeAt Go.RowKit
set_option maxRecDepth 100000
set_option linter.unusedVariables false
set_option linter.unusedSimpArgs false

end Go.Proofs.Ytcepopboldnical

/- What spec.Serve answers. -/
import Derived.Test.YtdgefdjgpneanadSpecTurn
import Derived.Test.YtdgefdjgpneanadSpecCp8
import Derived.Test.YtdgefdjgpneanadSpecServe
import Derived.Test.YtdgefdjgpneanadSrvMath
import Derived.Test.YtdgefdjgpneanadGrpC
import Derived.Deep.RegionHeld3
import Derived.Deep.DeepCutAuto
namespace Go.Proofs.Ytdgefdjgpneanad
open Go.ChangeShapes Go.WideShapes Go.ChangeAt Go.RowKit
set_option maxRecDepth 100000
set_option linter.unusedVariables false
set_option linter.unusedSimpArgs false

end Go.Proofs.Ytdgefdjgpneanad

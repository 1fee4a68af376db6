/- The laws' marks in Turns: the loops. -/
import Derived.Test.YtdgefdjgpneanadFlwMark
namespace Go.Proofs.Ytdgefdjgpneanad
open Go.ChangeShapes Go.WideShapes Go.ChangeAt Go.RowKit
set_option maxRecDepth 100000
set_option linter.unusedVariables false
set_option linter.unusedSimpArgs false

end Go.Proofs.Ytdgefdjgpneanad

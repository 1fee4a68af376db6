/- Lemmas on the way, of several texts: SpecAck. -/
import Derived.Test.YtkohlmloobojfaaGreatGrpAM
import Derived.Test.YtkohlmloobojfaaGreatGrpAA
import Derived.Deep.LoopGhost
namespace Go.Proofs.YtkohlmloobojfaaGreat
open Go.ChangeShapes Go.WideShapes Go.ChangeAt Go.RowKit
set_option maxRecDepth 100000
set_option linter.unusedVariables false

def n10B (x : Int) : Bool := decide (1 ≤ x) && decide (x ≤ 1000000000)
end Go.Proofs.YtkohlmloobojfaaGreat

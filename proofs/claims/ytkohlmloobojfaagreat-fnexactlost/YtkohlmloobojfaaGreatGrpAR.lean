/- Lemmas on the way, of several texts: SpecCubAck. -/
import Derived.Test.YtkohlmloobojfaaGreatGrpAD
import Derived.Test.YtkohlmloobojfaaGreatGrpAM
import Derived.Test.YtkohlmloobojfaaGreatGrpAN
namespace Go.Proofs.YtkohlmloobojfaaGreat
open Go.ChangeShapes Go.WideShapes Go.ChangeAt Go.RowKit
set_option maxRecDepth 100000
set_option linter.unusedVariables false
set_option linter.unusedSimpArgs false

def frW (wn fr n : Int) : Int := min 1000000000 (fr + n * 9 * 1500 / (17 * wn))
def msOf (st now : Int) : Int := min 1000000 (max 0 (now - st) / 1000000)
def tgW (wn la og ms : Int) : Int := min (cubAtOf la og ms) (3 * wn / 2)
def wnW (wn fr tg : Int) : Int := min 1000000000 (max wn (max fr tg))
end Go.Proofs.YtkohlmloobojfaaGreat

/- What impl.Retree answers. -/
import Derived.Test.YtmophpbfaonfmacImplNew
namespace Go.Proofs.Ytmophpbfaonfmac
open Go.ChangeShapes Go.WideShapes Go.ChangeAt Go.RowKit
set_option maxRecDepth 100000
set_option linter.unusedVariables false
set_option linter.unusedSimpArgs false

def retT (T O P S : List Q4) (now : Int) : List Q4 := if movB T O P S now = true then S else []
def retO (T O P S : List Q4) (now : Int) : List Q4 := if movB T O P S now = true then movO S O now else []
def retP (T O P S : List Q4) (now : Int) : List Q4 := if movB T O P S now = true then movP S P now else []
end Go.Proofs.Ytmophpbfaonfmac

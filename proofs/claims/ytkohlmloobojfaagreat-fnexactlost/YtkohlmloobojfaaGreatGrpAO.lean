/- Lemmas on the way, of several texts: AckBoth. -/
import Derived.Test.YtkohlmloobojfaaGreatGrpAM
import Derived.Test.YtkohlmloobojfaaGreatGrpAN
import Derived.Handy
import Derived.Stop.Asserts
namespace Go.Proofs.YtkohlmloobojfaaGreat
open Go.ChangeShapes Go.WideShapes Go.ChangeAt Go.RowKit
set_option maxRecDepth 100000
set_option linter.unusedVariables false

def ackIn (k wn th fl ac la og st fr : Int) (sl : Bool) (n : Int) : C10 := if wn < th then (if wn + n < th then ⟨k, wn + n, th, max 0 (fl - n), ac, la, og, st, fr, sl⟩ else ⟨k, th, th, max 0 (fl - n), ac, la, og, st, fr, false⟩) else ⟨k, (stepA (ac + n) wn).2, th, max 0 (fl - n), (stepA (ac + n) wn).1, la, og, st, fr, sl⟩
def ackC (k wn th fl ac la og st fr : Int) (sl : Bool) (n : Int) : C10 := if ccB k wn th fl ac la og st fr = true ∧ n10B n = true then ackIn k wn th fl ac la og st fr sl n else zeroC
end Go.Proofs.YtkohlmloobojfaaGreat

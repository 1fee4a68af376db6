/- What chapter 10's RenoLoss and RenoTimeout answer, spec's and impl's. -/
import Derived.Test.YtiibafphgjlffafNewCc
import Derived.Handy
namespace Go.Proofs.Ytiibafphgjlffaf
open Go.ChangeShapes Go.WideShapes Go.ChangeAt Go.RowKit
set_option maxRecDepth 100000
set_option linter.unusedVariables false

def halfW (wn : Int) : Int := max 3000 (wn / 2)
theorem tdiv10 {x : Int} (h : 0 ≤ x) (m : Int) : x.tdiv m = x / m := Int.tdiv_eq_ediv_of_nonneg h
end Go.Proofs.Ytiibafphgjlffaf

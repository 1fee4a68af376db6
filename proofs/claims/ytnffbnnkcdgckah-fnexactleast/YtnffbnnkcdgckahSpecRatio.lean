/- What spec.Ratio answers: the quotient, or 0 where there is none. -/
import Derived.Test.YtnffbnnkcdgckahOrd
namespace Go.Proofs.Ytnffbnnkcdgckah
open Go.ChangeShapes Go.WideShapes Go.ChangeAt Go.RowKit
open Ieee (Datum Format double)
set_option linter.unusedVariables false

theorem div_lt64 {a b r : Nat} (h : double.div a b = some r) : r < 18446744073709551616 := double.div_lt h
end Go.Proofs.Ytnffbnnkcdgckah

/- The laws' comparisons of lists of samples. -/
import Derived.Test.YtoeiheccmpjclarToSmp
import Derived.Deep.RegionHeld3
namespace Go.Proofs.Ytoeiheccmpjclar
open Go.ChangeShapes Go.WideShapes Go.ChangeAt Go.RowKit
set_option maxRecDepth 100000
set_option linter.unusedVariables false

theorem ret_b {f g : Bool} (h : f = g) : Ending.returned (.bool f) = .returned (.bool g) := by rw [h]
end Go.Proofs.Ytoeiheccmpjclar

/- The draws of chapter 9. -/
import Derived.Test.YtohenfogiegkmadDraw9b
namespace Go.Proofs.Ytohenfogiegkmad
open Go.ChangeShapes Go.WideShapes Go.ChangeAt Go.RowKit
set_option maxRecDepth 100000
set_option linter.unusedVariables false
set_option linter.unusedSimpArgs false

def TripPost (w : World) (e : Ending) (w' : World) : Prop := ∃ (k : Bool) (x y z : Int), e = .returned (.agg #[.bool k, .int .i64 x, .int .i64 y, .int .i64 z]) ∧ Below w.heap.size w w'
end Go.Proofs.Ytohenfogiegkmad

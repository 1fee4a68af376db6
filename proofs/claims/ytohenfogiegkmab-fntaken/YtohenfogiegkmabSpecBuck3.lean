/- What spec's buckets answer: Fill, Take, When. -/
import Derived.Test.YtohenfogiegkmabSpecBuck2
import Derived.Deep.RegionHeld3
namespace Go.Proofs.Ytohenfogiegkmab
open Go.ChangeShapes Go.WideShapes Go.ChangeAt Go.RowKit
set_option maxRecDepth 100000
set_option linter.unusedVariables false

def fillOf (r u l t now : Int) : Int × Int × Int × Int := if (bokB r u l t && timeB now) = true then (r, u, fillL r u l t now, fillT t now) else (0, 0, 0, 0)
end Go.Proofs.Ytohenfogiegkmab

import Derived.RangeFuncNested
import Derived.RangeFuncBound
import Derived.Shelf.RegionOpen
import Derived.OwnWalkIn
import Derived.LoopNIn
import Derived.LoopIn
import Derived.Maps.AppendAt
import Derived.Test.YthiojkjcmhojoaaGreatGfAS
namespace Go.Proofs.YthiojkjcmhojoaaGreat
open Go.ChangeShapes Go.WideShapes Go.ChangeAt Go.RowKit Go.Shelf
set_option maxRecDepth 100000
set_option linter.unusedVariables false
set_option linter.unusedSimpArgs false
attribute [local go_sem] Oper.semAt_some
abbrev Idx (m:Nat):={ x:Int // 0≤x∧x<(m:Int) }
def vals {m:Nat} (l:List (Idx m)):List Int:=l.map (·.1)
end Go.Proofs.YthiojkjcmhojoaaGreat

/- Lemmas on the way, of several texts: ImplLender. -/
import Derived.Test.YtndgfeeonibpgaaGreatGrpAB
import Derived.Test.YtndgfeeonibpgaaGreatGrpAY
import Derived.OrdersIn
import Derived.RangeFuncCalls
import Derived.TacticsIn
import Derived.Test.YtndgfeeonibpgaaGreatGrpAW
import Derived.Test.YtndgfeeonibpgaaGreatGrpAP
import Derived.Test.YtndgfeeonibpgaaGreatGrpAO
import Derived.Test.YtndgfeeonibpgaaGreatGrpAM
import Derived.Test.YtndgfeeonibpgaaGreatGrpAD
import Derived.BigQuiet
import Derived.Deep.QuietTactic
import Derived.Deep.CutRange
import Derived.Deep.DeepCutAuto
import Derived.Sort.CutIn
namespace Go.Proofs.YtndgfeeonibpgaaGreat
open Go.ChangeShapes Go.WideShapes Go.ChangeAt Go.RowKit Go.Shelf
set_option maxRecDepth 100000
set_option linter.unusedVariables false
set_option linter.unusedSimpArgs false
attribute [local go_sem] Oper.semAt_some

theorem iSeg_is {x : Int} {f : Bool} (h : segB x = f) (w : World) : Calls Tryz.prog 29 #[.int .i64 x] w fun e w' => e = .returned (.bool f) ∧ w' = w := by subst h; exact iseg_any x w
end Go.Proofs.YtndgfeeonibpgaaGreat

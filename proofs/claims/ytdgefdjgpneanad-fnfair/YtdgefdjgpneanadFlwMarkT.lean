/- The laws' marks in Turns: whole Turns. -/
import Derived.Test.YtdgefdjgpneanadFlwMarkF
import Derived.Test.YtdgefdjgpneanadFlwHeldF
namespace Go.Proofs.Ytdgefdjgpneanad
open Go.ChangeShapes Go.WideShapes Go.ChangeAt Go.RowKit
set_option maxRecDepth 100000
set_option linter.unusedVariables false
set_option linter.unusedSimpArgs false

theorem kAt_nil (k : Int) : kAt k [] 0 = k := by show k + 2 * (0 : Int) + (0 : Int) = k; omega
theorem kAt_pos {k : Int} {fs : List F8} (k0 : 0 ≤ k) (i : Nat) : 0 ≤ kAt k fs i := by unfold kAt; omega
end Go.Proofs.Ytdgefdjgpneanad

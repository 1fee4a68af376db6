/- What spec.Queue answers. -/
import Derived.Test.YtohenfogiegkmanSpecTurn
import Derived.Test.YtohenfogiegkmanSpecCp8
import Derived.Test.YtohenfogiegkmanFlwApp
import Derived.Test.YtohenfogiegkmanGrpA
import Derived.Test.YtohenfogiegkmanLate
import Derived.Deep.RegionHeld3
import Derived.Deep.DeepCutAuto
namespace Go.Proofs.Ytohenfogiegkman
open Go.ChangeShapes Go.WideShapes Go.ChangeAt Go.RowKit
set_option maxRecDepth 100000
set_option linter.unusedVariables false
set_option linter.unusedSimpArgs false

theorem put3_twoS {w : World} {g : Nat} (a b c : Value) {z0 z1 z2 : Value} (h0 : w.cell? ⟨g, 0, none⟩ = some z0) (h1 : w.cell? ⟨g, 1, none⟩ = some z1) (h2 : w.cell? ⟨g, 2, none⟩ = some z2) :
    ∀ j v, [a, b, c][j]? = some v → (((w.setCell ⟨g, 0, none⟩ a).setCell ⟨g, 1, none⟩ b).setCell ⟨g, 2, none⟩ c).cell? ⟨g, j, none⟩ = some v := by
  have h := put3_same (o := 0) a b c h0 h1 h2
  intro j v hv
  match j, hv with
  | 0, hv => obtain rfl : a = v := by simpa using hv
             exact h.1
  | 1, hv => obtain rfl : b = v := by simpa using hv
             exact h.2.1
  | 2, hv => obtain rfl : c = v := by simpa using hv
             exact h.2.2

end Go.Proofs.Ytohenfogiegkman

/- What impl's hasClass, isLeaf, Leaves and Spare answer. -/
import Derived.Test.YtbpmnldlgmpfcakImplTree
import Derived.Test.YtbpmnldlgmpfcakSpecTree2
namespace Go.Proofs.Ytbpmnldlgmpfcak
open Go.ChangeShapes Go.WideShapes Go.ChangeAt Go.RowKit
set_option maxRecDepth 100000
set_option linter.unusedVariables false
set_option linter.unusedSimpArgs false

def KidPost (i : Int) (ts : List Q4) (w : World) (e : Ending) (w' : World) : Prop := ∃ z : Int, e = .returned (.int .i64 z) ∧ decide (0 ≤ z) = !leafB ts i ∧ Below w.heap.size w w'
theorem iv_none (w : World) (lo : Nat) : IV w lo (.slice none 0 0) [] := .inr ⟨rfl, rfl⟩
end Go.Proofs.Ytbpmnldlgmpfcak

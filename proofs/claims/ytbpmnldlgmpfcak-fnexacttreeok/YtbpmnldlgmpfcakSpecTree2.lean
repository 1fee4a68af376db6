/- What spec.l6Class, l6Path, Path, Leaves, Spare answer. -/
import Derived.Test.YtbpmnldlgmpfcakSpecTree
import Derived.Test.YtbpmnldlgmpfcakIntOwn
namespace Go.Proofs.Ytbpmnldlgmpfcak
open Go.ChangeShapes Go.WideShapes Go.ChangeAt Go.RowKit
set_option maxRecDepth 100000
set_option linter.unusedVariables false
set_option linter.unusedSimpArgs false

/-- A list of numbers that was made anew. -/
def ListPost (w : World) (xs : List Int) (e : Ending) (w' : World) : Prop := ∃ a n c, e = .returned (.slice a n c) ∧ IV w' w.heap.size (.slice a n c) xs ∧ Below w.heap.size w w'
theorem below_app {w wr w' : World} {o : Obj} {row : Option Nat} (hb : Below w.heap.size w wr) (hg : (wr.alloc o).grownBy w' row) (hr : ∀ g, row = some g → w.heap.size ≤ g) : Below w.heap.size w w' :=
  (hb.alloc hb.size o).grown hg (Nat.le_trans hb.size (by simp)) hr
theorem iv_new (w : World) (lo : Nat) (t : TypeId) (h : lo ≤ w.heap.size) : IV (w.alloc (.cells #[] t)) lo (.slice (some ⟨w.heap.size, 0, none⟩) 0 0) [] :=
  .inl ⟨_, _, rfl, h, by simp, ⟨fun j hj => (by cases hj), fun j hj => (by cases hj)⟩, Nat.le_refl _⟩
end Go.Proofs.Ytbpmnldlgmpfcak

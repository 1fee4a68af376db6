/- What spec.l6Leaf and spec.l6Path answer. -/
import Derived.Test.YtbpmnldlgmpfcakCls
import Derived.Test.YtbpmnldlgmpfcakInts
import Derived.Test.YtbpmnldlgmpfcakKept
namespace Go.Proofs.Ytbpmnldlgmpfcak
open Go.ChangeShapes Go.WideShapes Go.ChangeAt Go.RowKit
set_option maxRecDepth 100000
set_option linter.unusedVariables false
set_option linter.unusedSimpArgs false

/-- No class has i for its parent. -/
def leafB (ts : List Q4) (i : Int) : Bool := ts.all fun t => !decide (t.1 = i)
theorem leaf_no {ts : List Q4} {i : Int} {k : Nat} (hk : k < ts.length) (h : ts[k].1 = i) : leafB ts i = false := by
  unfold leafB
  rw [List.all_eq_false]
  exact ⟨ts[k], List.getElem_mem hk, by simp [h]⟩
theorem leaf_yes {ts : List Q4} {i : Int} (h : ∀ k (hk : k < ts.length), ts[k].1 ≠ i) : leafB ts i = true := by
  unfold leafB
  rw [List.all_eq_true]
  intro t ht
  obtain ⟨k, hk, rfl⟩ := List.mem_iff_getElem.1 ht
  simp [h k hk]
end Go.Proofs.Ytbpmnldlgmpfcak

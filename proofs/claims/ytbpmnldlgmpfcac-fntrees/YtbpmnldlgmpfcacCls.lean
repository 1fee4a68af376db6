/- Lists of Class: the laws' copies, comparisons and marks of them. -/
import Derived.Test.YtbpmnldlgmpfcacQuad
import Derived.Deep.RegionHeld3
namespace Go.Proofs.Ytbpmnldlgmpfcac
open Go.ChangeShapes Go.WideShapes Go.ChangeAt Go.RowKit
set_option maxRecDepth 100000
set_option linter.unusedVariables false

theorem info_class : (Try.prog.info? 61).map (fun i => (i.zero, i.size, i.bytes)) = some (some (.agg #[.int .i64 0, .int .i64 0, .int .i64 0, .int .i64 0]), 4, 32) := by kernel_rfl
theorem cellsQ_i_class : Try.prog.cellsOf 2 = 1 := by kernel_rfl
theorem retQ {f g : Bool} (h : f = g) : Ending.returned (.bool f) = .returned (.bool g) := by rw [h]
end Go.Proofs.Ytbpmnldlgmpfcac

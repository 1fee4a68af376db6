/- The laws' marks: every number of a list of samples is written over, and read again. -/
import Derived.Test.YtoeiheccmpjclarToSmp
import Derived.Test.YtoeiheccmpjclarCur
namespace Go.Proofs.Ytoeiheccmpjclar
open Go.ChangeShapes Go.WideShapes Go.ChangeAt Go.RowKit
set_option maxRecDepth 100000
set_option linter.unusedVariables false

def marks (k : Int) (n : Nat) : List (Int × Int) := (List.range n).map fun (i : Nat) => (k + 2 * (i : Int), k + 2 * (i : Int) + 1)
theorem marks_length (k : Int) (n : Nat) : (marks k n).length = n := by simp [marks]
theorem marks_get (k : Int) (n i : Nat) (h : i < (marks k n).length) : (marks k n)[i] = (k + 2 * (i : Int), k + 2 * (i : Int) + 1) := by simp [marks]
theorem Fill.again {w : World} {g n k : Nat} {xs : List (Int × Int)} (f : Fill w g n xs k) (ys : List (Int × Int)) : Fill w g n ys 0 := ⟨f.any, fun i hi hk => by omega⟩
theorem ret_v {f g : Int} (h : f = g) : Value.int .i64 f = .int .i64 g := by rw [h]
end Go.Proofs.Ytoeiheccmpjclar

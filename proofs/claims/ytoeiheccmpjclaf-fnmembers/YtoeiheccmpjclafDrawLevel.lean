/- The draw of two times; the laws' pick. -/
import Derived.Test.YtoeiheccmpjclafDraws1
namespace Go.Proofs.Ytoeiheccmpjclaf
open Go.ChangeShapes Go.WideShapes Go.ChangeAt Go.RowKit
set_option maxRecDepth 100000
set_option linter.unusedVariables false

theorem levTab_in (X : Nat) (h : X < 5) : ∃ y : Int, (#[Value.int IntKind.i64 1, Value.int IntKind.i64 1000000, Value.int IntKind.i64 60000000, Value.int IntKind.i64 4000000000, Value.int IntKind.i64 300000000000] : Array Value)[X]? = some (.int .i64 y) := by
  match X, h with
  | 0, _ => exact ⟨_, rfl⟩
  | 1, _ => exact ⟨_, rfl⟩
  | 2, _ => exact ⟨_, rfl⟩
  | 3, _ => exact ⟨_, rfl⟩
  | 4, _ => exact ⟨_, rfl⟩
end Go.Proofs.Ytoeiheccmpjclaf

/- The draws of chapter 1's arguments: whatever the bytes, numbers of 64 bits; nothing that was there is written. -/
import Derived.Test.YtohenfogiegkmaeNew
namespace Go.Proofs.Ytohenfogiegkmae
open Go.ChangeShapes Go.WideShapes Go.ChangeAt Go.RowKit
set_option maxRecDepth 100000
set_option linter.unusedVariables false

theorem rateTab_in (X : Nat) (h : X < 6) : ∃ y : Int, (#[Value.int IntKind.i64 0, Value.int IntKind.i64 1, Value.int IntKind.i64 1000000000000, Value.int IntKind.i64 1000000000001, Value.int IntKind.i64 (-1), Value.int IntKind.i64 4611686018427387904] : Array Value)[X]? = some (.int .i64 y) ∧ I64 y := by
  match X, h with
  | 0, _ => exact ⟨_, rfl, by unfold I64; decide⟩
  | 1, _ => exact ⟨_, rfl, by unfold I64; decide⟩
  | 2, _ => exact ⟨_, rfl, by unfold I64; decide⟩
  | 3, _ => exact ⟨_, rfl, by unfold I64; decide⟩
  | 4, _ => exact ⟨_, rfl, by unfold I64; decide⟩
  | 5, _ => exact ⟨_, rfl, by unfold I64; decide⟩

theorem timeTab_in (X : Nat) (h : X < 6) : ∃ y : Int, (#[Value.int IntKind.i64 0, Value.int IntKind.i64 1000000000000000, Value.int IntKind.i64 1000000000000001, Value.int IntKind.i64 (-1), Value.int IntKind.i64 4611686018427387904, Value.int IntKind.i64 (-9223372036854775808)] : Array Value)[X]? = some (.int .i64 y) ∧ I64 y := by
  match X, h with
  | 0, _ => exact ⟨_, rfl, by unfold I64; decide⟩
  | 1, _ => exact ⟨_, rfl, by unfold I64; decide⟩
  | 2, _ => exact ⟨_, rfl, by unfold I64; decide⟩
  | 3, _ => exact ⟨_, rfl, by unfold I64; decide⟩
  | 4, _ => exact ⟨_, rfl, by unfold I64; decide⟩
  | 5, _ => exact ⟨_, rfl, by unfold I64; decide⟩

theorem windowTab_in (X : Nat) (h : X < 6) : ∃ y : Int, (#[Value.int IntKind.i64 0, Value.int IntKind.i64 3000, Value.int IntKind.i64 1000000000, Value.int IntKind.i64 1000000001, Value.int IntKind.i64 (-1), Value.int IntKind.i64 4611686018427387904] : Array Value)[X]? = some (.int .i64 y) ∧ I64 y := by
  match X, h with
  | 0, _ => exact ⟨_, rfl, by unfold I64; decide⟩
  | 1, _ => exact ⟨_, rfl, by unfold I64; decide⟩
  | 2, _ => exact ⟨_, rfl, by unfold I64; decide⟩
  | 3, _ => exact ⟨_, rfl, by unfold I64; decide⟩
  | 4, _ => exact ⟨_, rfl, by unfold I64; decide⟩
  | 5, _ => exact ⟨_, rfl, by unfold I64; decide⟩

end Go.Proofs.Ytohenfogiegkmae

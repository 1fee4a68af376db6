/- What the small functions of a draw answer: numbers below a bound, from bounds, odd ones; they turn the cursor's own block alone. -/
import Derived.Test.YtoeiheccmpjclarCur
namespace Go.Proofs.Ytoeiheccmpjclar
open Go.ChangeShapes Go.WideShapes Go.ChangeAt Go.RowKit
set_option maxRecDepth 100000
set_option linter.unusedVariables false

theorem new_below (w : World) (o : Obj) : Below w.heap.size w (w.alloc o) := (Below.refl _ _).alloc (Nat.le_refl _) _
theorem Cur.alloc {B : Nat} {a0 : Option Addr} {len cap b : Nat} {w : World} (c : Cur B a0 len cap b w) (o : Obj) : Cur B a0 len cap b (w.alloc o) := c.mono (new_below w o)
theorem Only.alloc {b : Nat} {w0 w : World} (h : Only b w0 w) (o : Obj) : Only b w0 (w.alloc o) := h.trans (Only.of_below (new_below w o))

/-- A cell of a table that was laid ahead of a draw. -/
theorem table_cell {b : Nat} {w w1 : World} {arr : Array Value} {t : TypeId} (hb : b < w.heap.size) (o : Only b (w.alloc (.cells arr t)) w1) (k : Nat) : w1.cell? ⟨w.heap.size, k, none⟩ = arr[k]? := by
  rw [o.cell (by show w.heap.size < _; simp) (by show w.heap.size ≠ b; omega)]
  exact World.cell?_alloc_at _ _ _ _ rfl

theorem odd_in (X : Nat) (h : X < 10) : ∃ y : Int, (#[Value.int IntKind.i64 (-1), Value.int IntKind.i64 0, Value.int IntKind.i64 1,
          Value.int IntKind.i64 2147483648, Value.int IntKind.i64 (-2147483648), Value.int IntKind.i64 1099511627776,
          Value.int IntKind.i64 4611686018427387904, Value.int IntKind.i64 (-4611686018427387904),
          Value.int IntKind.i64 9223372036854775807, Value.int IntKind.i64 (-9223372036854775808)] : Array Value)[X]? = some (.int .i64 y) ∧ (-9223372036854775808 ≤ y ∧ y ≤ 9223372036854775807) := by
  match X, h with
  | 0, _ => exact ⟨_, rfl, by decide⟩
  | 1, _ => exact ⟨_, rfl, by decide⟩
  | 2, _ => exact ⟨_, rfl, by decide⟩
  | 3, _ => exact ⟨_, rfl, by decide⟩
  | 4, _ => exact ⟨_, rfl, by decide⟩
  | 5, _ => exact ⟨_, rfl, by decide⟩
  | 6, _ => exact ⟨_, rfl, by decide⟩
  | 7, _ => exact ⟨_, rfl, by decide⟩
  | 8, _ => exact ⟨_, rfl, by decide⟩
  | 9, _ => exact ⟨_, rfl, by decide⟩

end Go.Proofs.Ytoeiheccmpjclar

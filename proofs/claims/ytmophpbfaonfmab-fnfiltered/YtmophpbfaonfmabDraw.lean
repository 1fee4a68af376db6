/- What the small functions of a draw answer: numbers below a bound, from bounds, odd ones; they turn the cursor's own block alone. -/
import Derived.Test.YtmophpbfaonfmabCur
namespace Go.Proofs.Ytmophpbfaonfmab
open Go.ChangeShapes Go.WideShapes Go.ChangeAt Go.RowKit
set_option maxRecDepth 100000
set_option linter.unusedVariables false

theorem byte_acc {B : Nat} {a0 : Option Addr} {len cap b : Nat} {w0 w : World} (c : Cur B a0 len cap b w) (o : Only b w0 w) :
    Calls Try.prog 77 #[.pointer (some ⟨b, 0, none⟩)] w fun e w' => ∃ x : Int, e = .returned (.int .i64 x) ∧ (0 ≤ x ∧ x ≤ 255) ∧ Cur B a0 len cap b w' ∧ Only b w0 w' := by
  refine (byte_any c).mono ?_
  rintro e w' ⟨x, rfl, hx, c', o'⟩
  exact ⟨x, rfl, hx, c', o.trans o'⟩

set_option maxHeartbeats 400000 in
theorem below_acc {B : Nat} {a0 : Option Addr} {len cap b : Nat} {w0 w : World} (n : Int) (c : Cur B a0 len cap b w) (o : Only b w0 w) (n0 : 1 ≤ n) (n1 : n ≤ 9223372036854775807) :
    Calls Try.prog 40 #[.pointer (some ⟨b, 0, none⟩), .int .i64 n] w fun e w' => ∃ x : Int, e = .returned (.int .i64 x) ∧ (0 ≤ x ∧ x < n) ∧ Cur B a0 len cap b w' ∧ Only b w0 w' := by
  have hm := fun y : Int => Int.emod_nonneg y (show n ≠ 0 by omega)
  have hl := fun y : Int => Int.emod_lt_of_pos y (show 0 < n by omega)
  by_cases h : n ≤ 256
  · have hne : (n == 0) = false := by simp; omega
    go_enter Try.func40, Try.ntmps40
    go_wp2_with (go_at_call 77; refine (byte_acc (by assumption) (by assumption)).mono ?_; rintro e w1 ⟨x, rfl, hx, c', o'⟩)
    go_ret
    exact ⟨_, rfl, ⟨hm _, hl _⟩, c', o'⟩
  · have hne : (n == 0) = false := by simp; omega
    go_enter Try.func40, Try.ntmps40
    go_wp2_with (go_at_call 77; refine (byte_acc (by assumption) (by assumption)).mono ?_; rintro e w1 ⟨x, rfl, hx, c', o'⟩)
    go_ret
    exact ⟨_, rfl, ⟨hm _, hl _⟩, c', o'⟩

theorem once_acc {B : Nat} {a0 : Option Addr} {len cap b : Nat} {w0 w : World} (n : Int) (c : Cur B a0 len cap b w) (o : Only b w0 w) (n0 : 1 ≤ n) (n1 : n ≤ 9223372036854775807) :
    Calls Try.prog 39 #[.pointer (some ⟨b, 0, none⟩), .int .i64 n] w fun e w' => ∃ x : Bool, e = .returned (.bool x) ∧ Cur B a0 len cap b w' ∧ Only b w0 w' := by
  go_enter Try.func39, Try.ntmps39
  go_wp2_with (go_at_call 40; refine (below_acc _ (by assumption) (by assumption) n0 n1).mono ?_; rintro e w1 ⟨x, rfl, hx, c', o'⟩)
  go_ret
  exact ⟨_, rfl, c', o'⟩

theorem from_acc {B : Nat} {a0 : Option Addr} {len cap b : Nat} {w0 w : World} (l h : Int) (c : Cur B a0 len cap b w) (o : Only b w0 w) (h1 : l ≤ h) (h2 : -1000000000000000000 ≤ l) (h3 : h ≤ 1000000000000000000) :
    Calls Try.prog 76 #[.pointer (some ⟨b, 0, none⟩), .int .i64 l, .int .i64 h] w fun e w' => ∃ x : Int, e = .returned (.int .i64 x) ∧ (l ≤ x ∧ x ≤ h) ∧ Cur B a0 len cap b w' ∧ Only b w0 w' := by
  go_enter Try.func76, Try.ntmps76
  go_wp2_with (go_at_call 40; refine (below_acc _ (by assumption) (by assumption) (by omega) (by omega)).mono ?_; rintro e w1 ⟨x, rfl, hx, c', o'⟩)
  go_ret
  exact ⟨_, rfl, by omega, c', o'⟩


theorem new_below (w : World) (o : Obj) : Below w.heap.size w (w.alloc o) := (Below.refl _ _).alloc (Nat.le_refl _) _
theorem Cur.alloc {B : Nat} {a0 : Option Addr} {len cap b : Nat} {w : World} (c : Cur B a0 len cap b w) (o : Obj) : Cur B a0 len cap b (w.alloc o) := c.mono (new_below w o)
theorem Only.alloc {b : Nat} {w0 w : World} (h : Only b w0 w) (o : Obj) : Only b w0 (w.alloc o) := h.trans (Only.of_below (new_below w o))

/-- A cell of a table that was laid ahead of a draw. -/
theorem table_cell {b : Nat} {w w1 : World} {arr : Array Value} {t : TypeId} (hb : b < w.heap.size) (o : Only b (w.alloc (.cells arr t)) w1) (k : Nat) : w1.cell? ⟨w.heap.size, k, none⟩ = arr[k]? := by
  rw [o.cell (by show w.heap.size < _; simp) (by show w.heap.size ≠ b; omega)]
  exact World.cell?_alloc_at _ _ _ _ rfl

theorem odd_in (X : Nat) (h : X < 10) : ∃ y : Int, (#[Value.int IntKind.i64 (-1), Value.int IntKind.i64 0, Value.int IntKind.i64 1,
          Value.int IntKind.i64 2147483648, Value.int IntKind.i64 (-2147483648), Value.int IntKind.i64 1099511627776,
          Value.int IntKind.i64 4611686018427387904, Value.int IntKind.i64 (-4611686018427387904),
          Value.int IntKind.i64 9223372036854775807, Value.int IntKind.i64 (-9223372036854775808)] : Array Value)[X]? = some (.int .i64 y) ∧ (-9223372036854775808 ≤ y ∧ y ≤ 9223372036854775807) := by
  match X, h with
  | 0, _ => exact ⟨_, rfl, by decide⟩
  | 1, _ => exact ⟨_, rfl, by decide⟩
  | 2, _ => exact ⟨_, rfl, by decide⟩
  | 3, _ => exact ⟨_, rfl, by decide⟩
  | 4, _ => exact ⟨_, rfl, by decide⟩
  | 5, _ => exact ⟨_, rfl, by decide⟩
  | 6, _ => exact ⟨_, rfl, by decide⟩
  | 7, _ => exact ⟨_, rfl, by decide⟩
  | 8, _ => exact ⟨_, rfl, by decide⟩
  | 9, _ => exact ⟨_, rfl, by decide⟩

end Go.Proofs.Ytmophpbfaonfmab

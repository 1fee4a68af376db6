/- Go's tests on floats as equations for a walk: in the words of the order's keys. -/
import Derived.Test.YtnffbnnkcdgckabRows
import Derived.Test.YtnffbnnkcdgckabFlt5
import Derived.WalkLawsBesides
import Derived.Outline
import Derived.Handy
import Derived.WalkSmall
namespace Go.Proofs.Ytnffbnnkcdgckab
open Go.ChangeShapes Go.WideShapes Go.ChangeAt Go.RowKit
open Ieee (Datum Format double)
set_option linter.unusedVariables false

theorem run_store_float (P : Program) (w : World) (a : Addr) (m : Mode) (k : FloatKind) (b : Nat) : (store a (.float k b) m).run P w = stored P w a (.float k b) m := run_store P w a _ m rfl
attribute [go_sem] run_store_float

theorem ret_bool {f g : Bool} (h : f = g) : Ending.returned (.bool f) = .returned (.bool g) := by rw [h]
theorem ret_float {a b : Nat} (h : a = b) : Ending.returned (.float .f64 a) = .returned (.float .f64 b) := by rw [h]

theorem one_read : double.read 4607182418800017408 = .number false 4503599627370496 (-52) := by decide
/-- One over a number is a number or an infinity. -/
theorem div_one {a : Nat} (h : isNan a = false) : ∃ r, double.div 4607182418800017408 a = some r := by
  have ha' : rung a ≤ 9218868437227405312 := by simpa [isNan] using h
  unfold Format.div
  rw [one_read]
  by_cases h1 : rung a = 9218868437227405312
  · rw [read_inf h1]; exact ⟨_, rfl⟩
  · obtain ⟨m, i, e, _, _⟩ := read_fin (show rung a < 9218868437227405312 by omega)
    rw [e]
    by_cases h0 : m = 0
    · subst h0; exact ⟨_, rfl⟩
    · simp only [Datum.quotient, if_neg h0]; exact ⟨_, rfl⟩
theorem order_self {a : Nat} (h : isNan a = false) : FloatKind.f64.format.order a a = some .eq := by
  show double.order a a = _
  rw [order_key h h, Int.compare_eq_eq.2 rfl]
theorem order_lt {a b : Nat} (ha : isNan a = false) (hb : isNan b = false) (h : key a < key b) : FloatKind.f64.format.order a b = some .lt := by
  show double.order a b = _
  rw [order_key ha hb, Int.compare_eq_lt.2 h]
theorem order_eq {a b : Nat} (ha : isNan a = false) (hb : isNan b = false) (h : key a = key b) : FloatKind.f64.format.order a b = some .eq := by
  show double.order a b = _
  rw [order_key ha hb, Int.compare_eq_eq.2 h]
theorem order_gt {a b : Nat} (ha : isNan a = false) (hb : isNan b = false) (h : key b < key a) : FloatKind.f64.format.order a b = some .gt := by
  show double.order a b = _
  rw [order_key ha hb, Int.compare_eq_gt.2 h]
theorem order_none {a b : Nat} (h : isNan a = true ∨ isNan b = true) : FloatKind.f64.format.order a b = none := order_nan h
theorem key_zero : key 0 = 0 := by decide
theorem nan_zero : isNan 0 = false := by decide

/-- The two noughts. -/
theorem nought_cases {a : Nat} (ha : a < 18446744073709551616) (h : rung a = 0) : a = 0 ∨ a = 9223372036854775808 := by
  unfold rung at h; omega

theorem run_quo_one {a r : Nat} (h : double.div 4607182418800017408 a = some r) (w : World) : (binOp .quo 24 (.float .f64 4607182418800017408) (.float .f64 a)).run Try.prog w = .ok (.float .f64 r) w :=
  run_float_arith w .quo 24 .f64 _ _ _ h

theorem run_same_float (b : Nat) (w : World) : (convert 24 24 (.float .f64 b)).run Try.prog w = .ok (.float .f64 b) w :=
  run_convert_float_float w 24 24 .f64 .f64 b b (by kernel_rfl) (by kernel_rfl) rfl
end Go.Proofs.Ytnffbnnkcdgckab

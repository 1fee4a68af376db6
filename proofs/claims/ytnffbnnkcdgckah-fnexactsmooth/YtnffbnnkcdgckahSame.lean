/- The exact laws' likeness of two floats: one word is like itself, and of two that are no numbers it is true. -/
import Derived.Test.YtnffbnnkcdgckahOrd
namespace Go.Proofs.Ytnffbnnkcdgckah
open Go.ChangeShapes Go.WideShapes Go.ChangeAt Go.RowKit
open Ieee (Datum Format double)
set_option linter.unusedVariables false

theorem same_nan (a b : Nat) (w : World) (ha : isNan a = true) (hb : isNan b = true) :
    Calls Try.prog 19 #[.float .f64 a, .float .f64 b] w fun e w' => e = .returned (.bool true) ∧ w' = w := by
  have o1 := order_none (a := a) (b := a) (.inl ha)
  have o2 := order_none (a := b) (b := b) (.inl hb)
  go_enter Try.func19, Try.ntmps19
  go_wp2
  go_ret
  exact ⟨rfl, rfl⟩
theorem same_self (a : Nat) (w : World) (la : a < 18446744073709551616) :
    Calls Try.prog 19 #[.float .f64 a, .float .f64 a] w fun e w' => e = .returned (.bool true) ∧ w' = w := by
  cases ha : isNan a
  · have o1 := order_self ha
    by_cases h0 : rung a = 0
    · rcases nought_cases la h0 with rfl | rfl
      · have q1 := run_quo_one (a := 0) (r := 9218868437227405312) (by decide)
        have o5 : FloatKind.f64.format.order 9218868437227405312 0 = some .gt := by decide
        clear h0
        go_enter Try.func19, Try.ntmps19
        go_wp2
        go_ret
        exact ⟨rfl, rfl⟩
      · have q1 := run_quo_one (a := 9223372036854775808) (r := 18442240474082181120) (by decide)
        have o4 : FloatKind.f64.format.order 9223372036854775808 0 = some .eq := by decide
        have o5 : FloatKind.f64.format.order 18442240474082181120 0 = some .lt := by decide
        clear h0
        go_enter Try.func19, Try.ntmps19
        go_wp2
        go_ret
        exact ⟨rfl, rfl⟩
    · have o4 : FloatKind.f64.format.order a 0 = some .lt ∨ FloatKind.f64.format.order a 0 = some .gt := by
        have hk0 : key a ≠ 0 := by unfold key; split <;> omega
        rcases Int.lt_trichotomy (key a) 0 with h | h | h
        · exact .inl (order_lt ha nan_zero (by rw [key_zero]; exact h))
        · exact absurd h hk0
        · exact .inr (order_gt ha nan_zero (by rw [key_zero]; exact h))
      clear h0
      rcases o4 with o4 | o4
      · go_enter Try.func19, Try.ntmps19
        go_wp2
        go_ret
        exact ⟨rfl, rfl⟩
      · go_enter Try.func19, Try.ntmps19
        go_wp2
        go_ret
        exact ⟨rfl, rfl⟩
  · exact same_nan a a w ha ha
end Go.Proofs.Ytnffbnnkcdgckah

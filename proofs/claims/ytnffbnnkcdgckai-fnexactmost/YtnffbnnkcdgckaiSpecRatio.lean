/- What spec.Ratio answers: the quotient, or 0 where there is none. -/
import Derived.Test.YtnffbnnkcdgckaiOrd
namespace Go.Proofs.Ytnffbnnkcdgckai
open Go.ChangeShapes Go.WideShapes Go.ChangeAt Go.RowKit
open Ieee (Datum Format double)
set_option linter.unusedVariables false

theorem div_lt64 {a b r : Nat} (h : double.div a b = some r) : r < 18446744073709551616 := double.div_lt h
theorem specRatio_any (a b : Nat) (w : World) :
    Calls Try.prog 8 #[.float .f64 a, .float .f64 b] w fun e w' => e = .returned (.float .f64 ((double.div a b).getD 0)) ∧ Below w.heap.size w w' := by
  cases h : double.div a b with
  | none =>
    have q := fun w => run_float_nan (P := Try.prog) w .quo 22 a b (.inr (.inr (.inr rfl))) h
    have o := fun w : World => order_none (a := nanAt w a b) (b := nanAt w a b) (.inl (nanAt_nan w a b))
    clear h
    go_enter Try.func8, Try.ntmps8
    go_wp2
    go_ret
    exact ⟨rfl, (Below.refl _ _).drew⟩
  | some r =>
    have q := fun w => run_float_arith (P := Try.prog) w .quo 22 .f64 a b r h
    have o := order_self (arith_ok (op := .quo) h)
    clear h
    go_enter Try.func8, Try.ntmps8
    go_wp2
    go_ret
    exact ⟨rfl, Below.refl _ _⟩
end Go.Proofs.Ytnffbnnkcdgckai

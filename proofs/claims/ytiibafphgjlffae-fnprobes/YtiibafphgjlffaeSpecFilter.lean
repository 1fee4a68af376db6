/- What spec's filters answer: Since, FilterOk. -/
import Derived.Test.YtiibafphgjlffaeGrpC
import Derived.Deep.RegionHeld3
import Derived.Deep.QuietTactic
import Derived.BigQuiet
namespace Go.Proofs.Ytiibafphgjlffae
open Go.ChangeShapes Go.WideShapes Go.ChangeAt Go.RowKit
set_option maxRecDepth 100000
set_option linter.unusedVariables false

theorem ret_i {f g : Int} (h : f = g) : Ending.returned (.int .i64 f) = .returned (.int .i64 g) := by rw [h]
theorem time_num {x : Int} (h : timeB x = true) : 0 ≤ x ∧ x ≤ 1000000000000000 := by
  simpa [timeB] using h
theorem rate_num {x : Int} (h : rateB x = true) : 0 ≤ x ∧ x ≤ 1000000000000 := by
  simpa [rateB] using h
theorem sinceOf_cons (p q t : Int) (xs : List (Int × Int)) : sinceOf ((p, q) :: xs) t = if timeB p = true ∧ timeB t = true ∧ p ≤ t then t - p else -1 := rfl
theorem since_cases (p t : Int) : (timeB p = false ∧ (if timeB p = true ∧ timeB t = true ∧ p ≤ t then t - p else -1) = -1) ∨
    (timeB p = true ∧ timeB t = false ∧ (if timeB p = true ∧ timeB t = true ∧ p ≤ t then t - p else -1) = -1) ∨
    (timeB p = true ∧ timeB t = true ∧ t < p ∧ (if timeB p = true ∧ timeB t = true ∧ p ≤ t then t - p else -1) = -1) ∨
    (timeB p = true ∧ timeB t = true ∧ p ≤ t ∧ (0 ≤ p ∧ p ≤ 1000000000000000) ∧ (0 ≤ t ∧ t ≤ 1000000000000000) ∧ (if timeB p = true ∧ timeB t = true ∧ p ≤ t then t - p else -1) = t - p) := by
  cases h1 : timeB p
  · exact .inl ⟨rfl, if_neg (fun c => Bool.false_ne_true c.1)⟩
  · cases h2 : timeB t
    · exact .inr (.inl ⟨rfl, rfl, if_neg (fun c => Bool.false_ne_true c.2.1)⟩)
    · by_cases h3 : p ≤ t
      · exact .inr (.inr (.inr ⟨rfl, rfl, h3, time_num h1, time_num h2, if_pos ⟨rfl, rfl, h3⟩⟩))
      · exact .inr (.inr (.inl ⟨rfl, rfl, by omega, if_neg (fun c => h3 c.2.2)⟩))
end Go.Proofs.Ytiibafphgjlffae

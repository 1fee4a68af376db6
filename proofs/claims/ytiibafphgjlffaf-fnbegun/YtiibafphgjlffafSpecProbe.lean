/- What spec's ProbeOk, NewProbe, Gain, Pace and Cap answer. -/
import Derived.Test.YtiibafphgjlffafPrb
import Derived.Test.YtiibafphgjlffafSpecPush
import Derived.Test.YtiibafphgjlffafTimes
import Derived.Test.YtiibafphgjlffafGrpF
namespace Go.Proofs.Ytiibafphgjlffaf
open Go.ChangeShapes Go.WideShapes Go.ChangeAt Go.RowKit
set_option maxRecDepth 100000
set_option linter.unusedVariables false
set_option linter.unusedSimpArgs false

open Classical in
/-- Is it right for the greatest? -/
noncomputable def filB (xs : List (Int × Int)) : Bool := decide (FOk true xs)
open Classical in
theorem fil_yes {xs : List (Int × Int)} (h : filB xs = true) : FOk true xs := by
  unfold filB at h
  exact of_decide_eq_true h
open Classical in
theorem fil_no {xs : List (Int × Int)} (h : filB xs = false) : ¬ FOk true xs := by
  unfold filB at h
  exact of_decide_eq_false h
def inP (lo x hi : Int) : Bool := decide (lo ≤ x) && decide (x ≤ hi)
theorem inP_is {lo x hi : Int} {f : Bool} (h : inP lo x hi = f) (w : World) : Calls Try.prog 26 #[.int .i64 x, .int .i64 lo, .int .i64 hi] w fun e w' => e = .returned (.bool f) ∧ w' = w := by subst h; exact in_any lo x hi w
theorem inP_any (lo x hi : Int) (w : World) : Calls Try.prog 26 #[.int .i64 x, .int .i64 lo, .int .i64 hi] w fun e w' => e = .returned (.bool (inP lo x hi)) ∧ w' = w := in_any lo x hi w
theorem timP_is {x : Int} {f : Bool} (h : timeB x = f) (w : World) : Calls Try.prog 16 #[.int .i64 x] w fun e w' => e = .returned (.bool f) ∧ w' = w := by subst h; exact time_any x w
noncomputable def pokB (sa cy sn tp sv mt ta : Int) (xs : List (Int × Int)) : Bool := (((((((inP 1 sa 4 && inP 0 cy 7) && timeB sn) && rateB tp) && inP 0 sv 3) && filB xs) && timeB mt) && timeB ta)
end Go.Proofs.Ytiibafphgjlffaf

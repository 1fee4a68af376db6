/- What impl's filters answer: Best, Since, and the small tests. -/
import Derived.Test.YtiibafphgjlffaeSpecFilterOk
import Derived.Test.YtiibafphgjlffaeGrpC
namespace Go.Proofs.Ytiibafphgjlffae
open Go.ChangeShapes Go.WideShapes Go.ChangeAt Go.RowKit
set_option maxRecDepth 100000
set_option linter.unusedVariables false

theorem ismp_any (p q : Int) (w : World) : Calls Try.prog 116 #[.agg #[.int .i64 p, .int .i64 q]] w fun e w' => e = .returned (.bool (smpB (p, q))) ∧ Below w.heap.size w w' := by
  show Calls _ _ _ _ fun e w' => e = .returned (.bool (timeB p && rateB q)) ∧ Below w.heap.size w w'
  cases h1 : timeB p <;> cases h2 : rateB q
  all_goals
    go_enter Try.func116, Try.ntmps116
    go_wp2_with (first | (go_at_call 59; refine (itime_any _ _).mono ?_; rintro e w2 ⟨rfl, rfl⟩) | (go_at_call 102; refine (irate_any _ _).mono ?_; rintro e w2 ⟨rfl, rfl⟩) | go_in)
    go_ret
    exact ⟨rfl, by go_grown⟩
def beatB (most : Bool) (a b : Int) : Bool := if most = true then decide (b < a) else decide (a < b)
theorem beats_any (a b : Int) (most : Bool) (w : World) : Calls Try.prog 120 #[.int .i64 a, .int .i64 b, .bool most] w fun e w' => e = .returned (.bool (beatB most a b)) ∧ w' = w := by
  cases most
  · show Calls _ _ _ _ fun e w' => e = .returned (.bool (decide (a < b))) ∧ w' = w
    go_enter Try.func120, Try.ntmps120
    go_wp2
    go_ret
    exact ⟨rfl, rfl⟩
  · show Calls _ _ _ _ fun e w' => e = .returned (.bool (decide (b < a))) ∧ w' = w
    go_enter Try.func120, Try.ntmps120
    go_wp2
    go_ret
    exact ⟨rfl, rfl⟩
theorem step_beat (most : Bool) (r s p q : Int) : stepB most (r, s) (p, q) = (decide (r < p) && beatB most s q) := by
  unfold stepB beatB
  cases most <;> rfl
theorem follows_any (p q r s : Int) (most : Bool) (w : World) : Calls Try.prog 133 #[.agg #[.int .i64 p, .int .i64 q], .agg #[.int .i64 r, .int .i64 s], .bool most] w fun e w' => e = .returned (.bool (stepB most (r, s) (p, q))) ∧ Below w.heap.size w w' := by
  rw [step_beat]
  by_cases h1 : r < p
  · rw [decide_eq_true h1]
    cases h2 : beatB most s q
    all_goals
      go_enter Try.func133, Try.ntmps133
      go_wp2_with (first | (go_at_call 120; refine (beats_any _ _ _ _).mono ?_; rintro e w2 ⟨rfl, rfl⟩; rw [h2]) | go_in)
      go_ret
      exact ⟨rfl, by go_grown⟩
  · have h1' : decide (r < p) = false := decide_eq_false h1
    rw [h1']
    go_enter Try.func133, Try.ntmps133
    go_wp2
    go_ret
    exact ⟨rfl, by go_grown⟩
theorem implBest_any {B : Nat} {w : World} {a : Option Addr} (cap : Nat) {xs : List (Int × Int)} (h : Smp B w a xs) (hB : B ≤ w.heap.size) :
    Calls Try.prog 98 #[.agg #[.slice a xs.length cap]] w fun e w' => e = .returned (.int .i64 (bestOf xs)) ∧ Below w.heap.size w w' := by
  cases xs with
  | nil =>
    go_enter Try.func98, Try.ntmps98
    go_wp2
    go_ret
    exact ⟨rfl, by go_grown⟩
  | cons x xs =>
    obtain ⟨b, off, rfl, hb, c0, c1⟩ := h.first hB
    clear h
    have hn : ¬ ((xs.length : Int) + 1 = 0) := by omega
    go_enter Try.func98, Try.ntmps98
    go_wp2
    go_ret
    exact ⟨rfl, by go_grown⟩
end Go.Proofs.Ytiibafphgjlffae

/- What spec's ProbeOk, NewProbe, Gain, Pace and Cap answer. -/
import Derived.Test.YtiibafphgjlffaePrb
import Derived.Test.YtiibafphgjlffaeSpecPush
import Derived.Test.YtiibafphgjlffaeTimes
import Derived.Test.YtiibafphgjlffaeGrpF
namespace Go.Proofs.Ytiibafphgjlffae
open Go.ChangeShapes Go.WideShapes Go.ChangeAt Go.RowKit
set_option maxRecDepth 100000
set_option linter.unusedVariables false
set_option linter.unusedSimpArgs false

open Classical in
/-- Is it right for the greatest? -/
noncomputable def filB (xs : List (Int × Int)) : Bool := decide (FOk true xs)
open Classical in
theorem fil_yes {xs : List (Int × Int)} (h : filB xs = true) : FOk true xs := by
  unfold filB at h
  exact of_decide_eq_true h
open Classical in
theorem fil_no {xs : List (Int × Int)} (h : filB xs = false) : ¬ FOk true xs := by
  unfold filB at h
  exact of_decide_eq_false h
theorem sFil_is {w : World} {a : Option Addr} (cap : Nat) {xs : List (Int × Int)} {f : Bool} (hf : filB xs = f) (h : Smp w.heap.size w a xs) : Calls Try.prog 101 #[.agg #[.slice a xs.length cap], .bool true] w fun e w' => e = .returned (.bool f) ∧ Below w.heap.size w w' := by
  cases f
  · exact (specFilterOk_no cap h (fil_no hf)).mono fun e w' k => k
  · exact (specFilterOk_yes cap h (fil_yes hf)).mono fun e w' k => k
def inP (lo x hi : Int) : Bool := decide (lo ≤ x) && decide (x ≤ hi)
theorem inP_is {lo x hi : Int} {f : Bool} (h : inP lo x hi = f) (w : World) : Calls Try.prog 66 #[.int .i64 x, .int .i64 lo, .int .i64 hi] w fun e w' => e = .returned (.bool f) ∧ w' = w := by subst h; exact in_any lo x hi w
theorem inP_any (lo x hi : Int) (w : World) : Calls Try.prog 66 #[.int .i64 x, .int .i64 lo, .int .i64 hi] w fun e w' => e = .returned (.bool (inP lo x hi)) ∧ w' = w := in_any lo x hi w
theorem timP_is {x : Int} {f : Bool} (h : timeB x = f) (w : World) : Calls Try.prog 73 #[.int .i64 x] w fun e w' => e = .returned (.bool f) ∧ w' = w := by subst h; exact time_any x w
theorem ratP_is {x : Int} {f : Bool} (h : rateB x = f) (w : World) : Calls Try.prog 95 #[.int .i64 x] w fun e w' => e = .returned (.bool f) ∧ w' = w := by subst h; exact rate_any x w
noncomputable def pokB (sa cy sn tp sv mt ta : Int) (xs : List (Int × Int)) : Bool := (((((((inP 1 sa 4 && inP 0 cy 7) && timeB sn) && rateB tp) && inP 0 sv 3) && filB xs) && timeB mt) && timeB ta)
set_option maxHeartbeats 4000000 in
theorem specProbeOk_any {sa cy sn tp sv mt ta : Int} {w : World} {a : Option Addr} (cap : Nat) {xs : List (Int × Int)} (smp : Smp w.heap.size w a xs) : Calls Try.prog 51 #[.agg #[.int .i64 sa, .int .i64 cy, .int .i64 sn, .int .i64 tp, .int .i64 sv, .slice a xs.length cap, .int .i64 mt, .int .i64 ta]] w fun e w' => e = .returned (.bool (pokB sa cy sn tp sv mt ta xs)) ∧ Below w.heap.size w w' := by
  cases h0 : inP 1 sa 4
  · rw [show pokB sa cy sn tp sv mt ta xs = false by unfold pokB; simp only [h0, Bool.false_and, Bool.and_false, Bool.true_and, Bool.and_true]]
    go_enter Try.func51, Try.ntmps51
    go_wp2_with (first
      | (go_at_call 66; refine (inP_any _ _ _ _).mono ?_; rintro e w2 ⟨rfl, rfl⟩; first | rw [h0]))
    go_ret
    exact ⟨rfl, by go_grown⟩
  cases h1 : inP 0 cy 7
  · rw [show pokB sa cy sn tp sv mt ta xs = false by unfold pokB; simp only [h0, h1, Bool.false_and, Bool.and_false, Bool.true_and, Bool.and_true]]
    go_enter Try.func51, Try.ntmps51
    go_wp2_with (first
      | (go_at_call 66; refine (inP_any _ _ _ _).mono ?_; rintro e w2 ⟨rfl, rfl⟩; first | rw [h0] | rw [h1]))
    go_ret
    exact ⟨rfl, by go_grown⟩
  cases h2 : timeB sn
  · rw [show pokB sa cy sn tp sv mt ta xs = false by unfold pokB; simp only [h0, h1, h2, Bool.false_and, Bool.and_false, Bool.true_and, Bool.and_true]]
    go_enter Try.func51, Try.ntmps51
    go_wp2_with (first
      | (go_at_call 66; refine (inP_any _ _ _ _).mono ?_; rintro e w2 ⟨rfl, rfl⟩; first | rw [h0] | rw [h1])
      | (go_at_call 73; refine (time_any _ _).mono ?_; rintro e w2 ⟨rfl, rfl⟩; first | rw [h2]))
    go_ret
    exact ⟨rfl, by go_grown⟩
  cases h3 : rateB tp
  · rw [show pokB sa cy sn tp sv mt ta xs = false by unfold pokB; simp only [h0, h1, h2, h3, Bool.false_and, Bool.and_false, Bool.true_and, Bool.and_true]]
    go_enter Try.func51, Try.ntmps51
    go_wp2_with (first
      | (go_at_call 66; refine (inP_any _ _ _ _).mono ?_; rintro e w2 ⟨rfl, rfl⟩; first | rw [h0] | rw [h1])
      | (go_at_call 73; refine (time_any _ _).mono ?_; rintro e w2 ⟨rfl, rfl⟩; first | rw [h2])
      | (go_at_call 95; refine (rate_any _ _).mono ?_; rintro e w2 ⟨rfl, rfl⟩; first | rw [h3]))
    go_ret
    exact ⟨rfl, by go_grown⟩
  cases h4 : inP 0 sv 3
  · rw [show pokB sa cy sn tp sv mt ta xs = false by unfold pokB; simp only [h0, h1, h2, h3, h4, Bool.false_and, Bool.and_false, Bool.true_and, Bool.and_true]]
    go_enter Try.func51, Try.ntmps51
    go_wp2_with (first
      | (go_at_call 66; refine (inP_any _ _ _ _).mono ?_; rintro e w2 ⟨rfl, rfl⟩; first | rw [h0] | rw [h1] | rw [h4])
      | (go_at_call 73; refine (time_any _ _).mono ?_; rintro e w2 ⟨rfl, rfl⟩; first | rw [h2])
      | (go_at_call 95; refine (rate_any _ _).mono ?_; rintro e w2 ⟨rfl, rfl⟩; first | rw [h3]))
    go_ret
    exact ⟨rfl, by go_grown⟩
  cases h5 : filB xs
  · rw [show pokB sa cy sn tp sv mt ta xs = false by unfold pokB; simp only [h0, h1, h2, h3, h4, h5, Bool.false_and, Bool.and_false, Bool.true_and, Bool.and_true]]
    go_enter Try.func51, Try.ntmps51
    go_wp2_with (first
      | (go_at_call 66; refine (inP_any _ _ _ _).mono ?_; rintro e w2 ⟨rfl, rfl⟩; first | rw [h0] | rw [h1] | rw [h4])
      | (go_at_call 73; refine (time_any _ _).mono ?_; rintro e w2 ⟨rfl, rfl⟩; first | rw [h2])
      | (go_at_call 95; refine (rate_any _ _).mono ?_; rintro e w2 ⟨rfl, rfl⟩; first | rw [h3])
      | (go_at_call 101; refine (sFil_is cap h5 (smp.here (by go_grown))).mono ?_; rintro e w3 ⟨rfl, hb3⟩; have hbw : Below w.heap.size w w3 := below_two (by go_grown) hb3; have kc := below_cells4 hb3; have zl := hb3.size; (try simp at zl)))
    go_ret
    exact ⟨rfl, hbw⟩
  cases h6 : timeB mt
  · rw [show pokB sa cy sn tp sv mt ta xs = false by unfold pokB; simp only [h0, h1, h2, h3, h4, h5, h6, Bool.false_and, Bool.and_false, Bool.true_and, Bool.and_true]]
    go_enter Try.func51, Try.ntmps51
    go_wp2_with (first
      | (go_at_call 66; refine (inP_any _ _ _ _).mono ?_; rintro e w2 ⟨rfl, rfl⟩; first | rw [h0] | rw [h1] | rw [h4])
      | (go_at_call 73; refine (time_any _ _).mono ?_; rintro e w2 ⟨rfl, rfl⟩; first | rw [h2] | rw [h6])
      | (go_at_call 95; refine (rate_any _ _).mono ?_; rintro e w2 ⟨rfl, rfl⟩; first | rw [h3])
      | (go_at_call 101; refine (sFil_is cap h5 (smp.here (by go_grown))).mono ?_; rintro e w3 ⟨rfl, hb3⟩; have hbw : Below w.heap.size w w3 := below_two (by go_grown) hb3; have kc := below_cells4 hb3; have zl := hb3.size; (try simp at zl)))
    go_ret
    exact ⟨rfl, hbw⟩
  cases h7 : timeB ta
  · rw [show pokB sa cy sn tp sv mt ta xs = false by unfold pokB; simp only [h0, h1, h2, h3, h4, h5, h6, h7, Bool.false_and, Bool.and_false, Bool.true_and, Bool.and_true]]
    go_enter Try.func51, Try.ntmps51
    go_wp2_with (first
      | (go_at_call 66; refine (inP_any _ _ _ _).mono ?_; rintro e w2 ⟨rfl, rfl⟩; first | rw [h0] | rw [h1] | rw [h4])
      | (go_at_call 73; refine (time_any _ _).mono ?_; rintro e w2 ⟨rfl, rfl⟩; first | rw [h2] | rw [h6] | rw [h7])
      | (go_at_call 95; refine (rate_any _ _).mono ?_; rintro e w2 ⟨rfl, rfl⟩; first | rw [h3])
      | (go_at_call 101; refine (sFil_is cap h5 (smp.here (by go_grown))).mono ?_; rintro e w3 ⟨rfl, hb3⟩; have hbw : Below w.heap.size w w3 := below_two (by go_grown) hb3; have kc := below_cells4 hb3; have zl := hb3.size; (try simp at zl)))
    go_ret
    exact ⟨rfl, hbw⟩
  rw [show pokB sa cy sn tp sv mt ta xs = true by unfold pokB; simp only [h0, h1, h2, h3, h4, h5, h6, h7, Bool.and_self]]
  go_enter Try.func51, Try.ntmps51
  go_wp2_with (first
    | (go_at_call 66; refine (inP_any _ _ _ _).mono ?_; rintro e w2 ⟨rfl, rfl⟩; first | rw [h0] | rw [h1] | rw [h4])
    | (go_at_call 73; refine (time_any _ _).mono ?_; rintro e w2 ⟨rfl, rfl⟩; first | rw [h2] | rw [h6] | rw [h7])
    | (go_at_call 95; refine (rate_any _ _).mono ?_; rintro e w2 ⟨rfl, rfl⟩; first | rw [h3])
    | (go_at_call 101; refine (sFil_is cap h5 (smp.here (by go_grown))).mono ?_; rintro e w3 ⟨rfl, hb3⟩; have hbw : Below w.heap.size w w3 := below_two (by go_grown) hb3; have kc := below_cells4 hb3; have zl := hb3.size; (try simp at zl)))
  go_ret
  exact ⟨rfl, hbw⟩
theorem specProbeOk_is {sa cy sn tp sv mt ta : Int} {w : World} {a : Option Addr} (cap : Nat) {xs : List (Int × Int)} {f : Bool} (hf : pokB sa cy sn tp sv mt ta xs = f) (smp : Smp w.heap.size w a xs) : Calls Try.prog 51 #[.agg #[.int .i64 sa, .int .i64 cy, .int .i64 sn, .int .i64 tp, .int .i64 sv, .slice a xs.length cap, .int .i64 mt, .int .i64 ta]] w fun e w' => e = .returned (.bool f) ∧ Below w.heap.size w w' := by subst hf; exact specProbeOk_any cap smp
end Go.Proofs.Ytiibafphgjlffae

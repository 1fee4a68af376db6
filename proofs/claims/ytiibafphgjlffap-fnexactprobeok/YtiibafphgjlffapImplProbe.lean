/- What impl's ProbeOk, NewProbe, Gain, Pace and Cap answer. -/
import Derived.Test.YtiibafphgjlffapSpecProbe2
import Derived.Test.YtiibafphgjlffapImplPush
import Derived.Test.YtiibafphgjlffapGrpC
namespace Go.Proofs.Ytiibafphgjlffap
open Go.ChangeShapes Go.WideShapes Go.ChangeAt Go.RowKit
set_option maxRecDepth 100000
set_option linter.unusedVariables false
set_option linter.unusedSimpArgs false

theorem iFil_is {w : World} {a : Option Addr} (cap : Nat) {xs : List (Int × Int)} {f : Bool} (hf : filB xs = f) (h : Smp w.heap.size w a xs) : Calls Try.prog 51 #[.agg #[.slice a xs.length cap], .bool true] w fun e w' => e = .returned (.bool f) ∧ Below w.heap.size w w' := by
  cases f
  · exact (implFilterOk_no cap h (fil_no hf)).mono fun e w' k => k
  · exact (implFilterOk_yes cap h (fil_yes hf)).mono fun e w' k => k
theorem iP_any (lo x hi : Int) (w : World) : Calls Try.prog 39 #[.int .i64 x, .int .i64 lo, .int .i64 hi] w fun e w' => e = .returned (.bool (inP lo x hi)) ∧ w' = w := iwithin_any lo x hi w
theorem iP_is {lo x hi : Int} {f : Bool} (h : inP lo x hi = f) (w : World) : Calls Try.prog 39 #[.int .i64 x, .int .i64 lo, .int .i64 hi] w fun e w' => e = .returned (.bool f) ∧ w' = w := by subst h; exact iP_any lo x hi w
theorem iT_is {x : Int} {f : Bool} (h : timeB x = f) (w : World) : Calls Try.prog 43 #[.int .i64 x] w fun e w' => e = .returned (.bool f) ∧ w' = w := by subst h; exact itime_any x w
theorem pok_order (sa cy sn tp sv mt ta : Int) (xs : List (Int × Int)) : pokB sa cy sn tp sv mt ta xs = (inP 1 sa 4 && inP 0 cy 7 && inP 0 sv 3 && timeB sn && timeB ta && timeB mt && rateB tp && filB xs) := by
  unfold pokB
  ac_rfl
set_option maxHeartbeats 4000000 in
theorem implProbeOk_any {sa cy sn tp sv mt ta : Int} {w : World} {a : Option Addr} (cap : Nat) {xs : List (Int × Int)} (smp : Smp w.heap.size w a xs) : Calls Try.prog 24 #[.agg #[.int .i64 sa, .int .i64 cy, .int .i64 sn, .int .i64 tp, .int .i64 sv, .slice a xs.length cap, .int .i64 mt, .int .i64 ta]] w fun e w' => e = .returned (.bool (pokB sa cy sn tp sv mt ta xs)) ∧ Below w.heap.size w w' := by
  rw [pok_order]
  cases h0 : inP 1 sa 4
  · rw [show (false && inP 0 cy 7 && inP 0 sv 3 && timeB sn && timeB ta && timeB mt && rateB tp && filB xs) = false by simp only [Bool.false_and, Bool.and_false, Bool.true_and, Bool.and_true]]
    go_enter Try.func24, Try.ntmps24
    go_wp2_with (first
      | (go_at_call 39; refine (iP_any _ _ _ _).mono ?_; rintro e w2 ⟨rfl, rfl⟩; first | rw [h0]))
    go_ret
    exact ⟨rfl, by go_grown⟩
  cases h1 : inP 0 cy 7
  · rw [show (true && false && inP 0 sv 3 && timeB sn && timeB ta && timeB mt && rateB tp && filB xs) = false by simp only [Bool.false_and, Bool.and_false, Bool.true_and, Bool.and_true]]
    go_enter Try.func24, Try.ntmps24
    go_wp2_with (first
      | (go_at_call 39; refine (iP_any _ _ _ _).mono ?_; rintro e w2 ⟨rfl, rfl⟩; first | rw [h0] | rw [h1]))
    go_ret
    exact ⟨rfl, by go_grown⟩
  cases h2 : inP 0 sv 3
  · rw [show (true && true && false && timeB sn && timeB ta && timeB mt && rateB tp && filB xs) = false by simp only [Bool.false_and, Bool.and_false, Bool.true_and, Bool.and_true]]
    go_enter Try.func24, Try.ntmps24
    go_wp2_with (first
      | (go_at_call 39; refine (iP_any _ _ _ _).mono ?_; rintro e w2 ⟨rfl, rfl⟩; first | rw [h0] | rw [h1] | rw [h2]))
    go_ret
    exact ⟨rfl, by go_grown⟩
  cases h3 : timeB sn
  · rw [show (true && true && true && false && timeB ta && timeB mt && rateB tp && filB xs) = false by simp only [Bool.false_and, Bool.and_false, Bool.true_and, Bool.and_true]]
    go_enter Try.func24, Try.ntmps24
    go_wp2_with (first
      | (go_at_call 39; refine (iP_any _ _ _ _).mono ?_; rintro e w2 ⟨rfl, rfl⟩; first | rw [h0] | rw [h1] | rw [h2])
      | (go_at_call 43; refine (itime_any _ _).mono ?_; rintro e w2 ⟨rfl, rfl⟩; first | rw [h3]))
    go_ret
    exact ⟨rfl, by go_grown⟩
  cases h4 : timeB ta
  · rw [show (true && true && true && true && false && timeB mt && rateB tp && filB xs) = false by simp only [Bool.false_and, Bool.and_false, Bool.true_and, Bool.and_true]]
    go_enter Try.func24, Try.ntmps24
    go_wp2_with (first
      | (go_at_call 39; refine (iP_any _ _ _ _).mono ?_; rintro e w2 ⟨rfl, rfl⟩; first | rw [h0] | rw [h1] | rw [h2])
      | (go_at_call 43; refine (itime_any _ _).mono ?_; rintro e w2 ⟨rfl, rfl⟩; first | rw [h3] | rw [h4]))
    go_ret
    exact ⟨rfl, by go_grown⟩
  cases h5 : timeB mt
  · rw [show (true && true && true && true && true && false && rateB tp && filB xs) = false by simp only [Bool.false_and, Bool.and_false, Bool.true_and, Bool.and_true]]
    go_enter Try.func24, Try.ntmps24
    go_wp2_with (first
      | (go_at_call 39; refine (iP_any _ _ _ _).mono ?_; rintro e w2 ⟨rfl, rfl⟩; first | rw [h0] | rw [h1] | rw [h2])
      | (go_at_call 43; refine (itime_any _ _).mono ?_; rintro e w2 ⟨rfl, rfl⟩; first | rw [h3] | rw [h4] | rw [h5]))
    go_ret
    exact ⟨rfl, by go_grown⟩
  cases h6 : rateB tp
  · rw [show (true && true && true && true && true && true && false && filB xs) = false by simp only [Bool.false_and, Bool.and_false, Bool.true_and, Bool.and_true]]
    go_enter Try.func24, Try.ntmps24
    go_wp2_with (first
      | (go_at_call 39; refine (iP_any _ _ _ _).mono ?_; rintro e w2 ⟨rfl, rfl⟩; first | rw [h0] | rw [h1] | rw [h2])
      | (go_at_call 43; refine (itime_any _ _).mono ?_; rintro e w2 ⟨rfl, rfl⟩; first | rw [h3] | rw [h4] | rw [h5])
      | (go_at_call 50; refine (irate_any _ _).mono ?_; rintro e w2 ⟨rfl, rfl⟩; first | rw [h6]))
    go_ret
    exact ⟨rfl, by go_grown⟩
  cases h7 : filB xs
  · rw [show (true && true && true && true && true && true && true && false) = false by simp only [Bool.false_and, Bool.and_false, Bool.true_and, Bool.and_true]]
    go_enter Try.func24, Try.ntmps24
    go_wp2_with (first
      | (go_at_call 39; refine (iP_any _ _ _ _).mono ?_; rintro e w2 ⟨rfl, rfl⟩; first | rw [h0] | rw [h1] | rw [h2])
      | (go_at_call 43; refine (itime_any _ _).mono ?_; rintro e w2 ⟨rfl, rfl⟩; first | rw [h3] | rw [h4] | rw [h5])
      | (go_at_call 50; refine (irate_any _ _).mono ?_; rintro e w2 ⟨rfl, rfl⟩; first | rw [h6])
      | (go_at_call 51; refine (iFil_is cap h7 (smp.here (by go_grown))).mono ?_; rintro e w3 ⟨rfl, hb3⟩; have hbw : Below w.heap.size w w3 := below_two (by go_grown) hb3))
    go_ret
    exact ⟨rfl, hbw⟩
  rw [show (true && true && true && true && true && true && true && true) = true from rfl]
  go_enter Try.func24, Try.ntmps24
  go_wp2_with (first
    | (go_at_call 39; refine (iP_any _ _ _ _).mono ?_; rintro e w2 ⟨rfl, rfl⟩; first | rw [h0] | rw [h1] | rw [h2])
    | (go_at_call 43; refine (itime_any _ _).mono ?_; rintro e w2 ⟨rfl, rfl⟩; first | rw [h3] | rw [h4] | rw [h5])
    | (go_at_call 50; refine (irate_any _ _).mono ?_; rintro e w2 ⟨rfl, rfl⟩; first | rw [h6])
    | (go_at_call 51; refine (iFil_is cap h7 (smp.here (by go_grown))).mono ?_; rintro e w3 ⟨rfl, hb3⟩; have hbw : Below w.heap.size w w3 := below_two (by go_grown) hb3))
  go_ret
  exact ⟨rfl, hbw⟩
theorem implProbeOk_is {sa cy sn tp sv mt ta : Int} {w : World} {a : Option Addr} (cap : Nat) {xs : List (Int × Int)} {f : Bool} (hf : pokB sa cy sn tp sv mt ta xs = f) (smp : Smp w.heap.size w a xs) : Calls Try.prog 24 #[.agg #[.int .i64 sa, .int .i64 cy, .int .i64 sn, .int .i64 tp, .int .i64 sv, .slice a xs.length cap, .int .i64 mt, .int .i64 ta]] w fun e w' => e = .returned (.bool f) ∧ Below w.heap.size w w' := by subst hf; exact implProbeOk_any cap smp
theorem gain_is {sa cy sn tp sv mt ta : Int} {xs : List (Int × Int)} (h : pokB sa cy sn tp sv mt ta xs = true) : (0 ≤ sa - 1 ∧ sa - 1 ≤ 3) ∧ (0 ≤ cy ∧ cy ≤ 7) ∧ (if sa - 1 = 0 then 289 else if sa - 1 = 1 then 35 else if sa - 1 = 2 then (if cy = 0 then 125 else if cy = 1 then 75 else 100) else 100) = gainOf sa cy := by
  have hs : (1 ≤ sa ∧ sa ≤ 4) ∧ (0 ≤ cy ∧ cy ≤ 7) := by
    unfold pokB inP at h
    simp only [Bool.and_eq_true, decide_eq_true_eq] at h
    omega
  refine ⟨by omega, hs.2, ?_⟩
  unfold gainOf
  rcases (show sa = 1 ∨ sa = 2 ∨ sa = 3 ∨ sa = 4 by omega) with e | e | e | e <;> subst e <;> rfl
end Go.Proofs.Ytiibafphgjlffap

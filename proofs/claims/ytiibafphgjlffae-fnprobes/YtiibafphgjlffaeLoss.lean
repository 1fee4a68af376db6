/- What chapter 10's RenoLoss and RenoTimeout answer, spec's and impl's. -/
import Derived.Test.YtiibafphgjlffaeNewCc
import Derived.Handy
namespace Go.Proofs.Ytiibafphgjlffae
open Go.ChangeShapes Go.WideShapes Go.ChangeAt Go.RowKit
set_option maxRecDepth 100000
set_option linter.unusedVariables false

def halfW (wn : Int) : Int := max 3000 (wn / 2)
theorem tdiv10 {x : Int} (h : 0 ≤ x) (m : Int) : x.tdiv m = x / m := Int.tdiv_eq_ediv_of_nonneg h
theorem max10_any (x y : Int) (w : World) : Calls Try.prog 57 #[.int .i64 x, .int .i64 y] w fun e w' => e = .returned (.int .i64 (max x y)) ∧ w' = w := by
  by_cases h : y < x
  · rw [Int.max_eq_left (by omega)]
    go_enter Try.func57, Try.ntmps57
    go_wp2
    go_ret
    exact ⟨rfl, rfl⟩
  · rw [Int.max_eq_right (by omega)]
    go_enter Try.func57, Try.ntmps57
    go_wp2
    go_ret
    exact ⟨rfl, rfl⟩
theorem min10_any (x y : Int) (w : World) : Calls Try.prog 58 #[.int .i64 x, .int .i64 y] w fun e w' => e = .returned (.int .i64 (min x y)) ∧ w' = w := by
  by_cases h : x < y
  · rw [Int.min_eq_left (by omega)]
    go_enter Try.func58, Try.ntmps58
    go_wp2
    go_ret
    exact ⟨rfl, rfl⟩
  · rw [Int.min_eq_right (by omega)]
    go_enter Try.func58, Try.ntmps58
    go_wp2
    go_ret
    exact ⟨rfl, rfl⟩
set_option maxHeartbeats 4000000 in
theorem specRenoLoss_no {k wn th fl ac la og st fr : Int} (sl : Bool) (w : World) (h1 : ccB k wn th fl ac la og st fr = false) : Calls Try.prog 20 #[.agg #[.int .i64 k, .int .i64 wn, .int .i64 th, .int .i64 fl, .int .i64 ac, .int .i64 la, .int .i64 og, .int .i64 st, .int .i64 fr, .bool sl]] w fun e w' => e = .returned (.agg #[.int .i64 0, .int .i64 0, .int .i64 0, .int .i64 0, .int .i64 0, .int .i64 0, .int .i64 0, .int .i64 0, .int .i64 0, .bool false]) ∧ Below w.heap.size w w' := by
  go_enter Try.func20, Try.ntmps20
  go_wp2_with (first
    | (go_at_call 23; refine (specCcOk_is h1 _ _).mono ?_; rintro e w2 ⟨rfl, rfl⟩))
  refine bodyPost_ret (results_one rfl _ _ _ [.int .i64 0, .int .i64 0, .int .i64 0, .int .i64 0, .int .i64 0, .int .i64 0, .int .i64 0, .int .i64 0, .int .i64 0, .bool false] rfl (cells_ten (by go_simp) (by go_simp) (by go_simp) (by go_simp) (by go_simp) (by go_simp) (by go_simp) (by go_simp) (by go_simp) (by go_simp)) Try.underlying31 rfl (by kernel_rfl)) rfl ?_
  exact ⟨rfl, by go_grown⟩
set_option maxHeartbeats 4000000 in
theorem specRenoLoss_yes {k wn th fl ac la og st fr : Int} (sl : Bool) (w : World) (h1 : ccB k wn th fl ac la og st fr = true) : Calls Try.prog 20 #[.agg #[.int .i64 k, .int .i64 wn, .int .i64 th, .int .i64 fl, .int .i64 ac, .int .i64 la, .int .i64 og, .int .i64 st, .int .i64 fr, .bool sl]] w fun e w' => e = .returned (.agg #[.int .i64 k, .int .i64 (halfW wn), .int .i64 (halfW wn), .int .i64 fl, .int .i64 0, .int .i64 la, .int .i64 og, .int .i64 st, .int .i64 fr, .bool false]) ∧ Below w.heap.size w w' := by
  obtain ⟨_, ⟨wn0, wn1⟩, _⟩ := cc_num h1
  have ed := tdiv10 (x := wn) (by omega) 2
  have hm : ∀ w : World, Calls Try.prog 57 #[.int .i64 3000, .int .i64 (wn / 2)] w fun e w' => e = .returned (.int .i64 (halfW wn)) ∧ w' = w := max10_any 3000 (wn / 2)
  go_enter Try.func20, Try.ntmps20
  go_wp2_with (first
    | (go_at_call 23; refine (specCcOk_is h1 _ _).mono ?_; rintro e w2 ⟨rfl, rfl⟩)
    | (go_at_call 57; (try rw [ed]); refine (hm _).mono ?_; rintro e w3 ⟨rfl, rfl⟩))
  refine bodyPost_ret (results_one rfl _ _ _ [.int .i64 k, .int .i64 (halfW wn), .int .i64 (halfW wn), .int .i64 fl, .int .i64 0, .int .i64 la, .int .i64 og, .int .i64 st, .int .i64 fr, .bool false] rfl (cells_ten (by go_simp) (by go_simp) (by go_simp) (by go_simp) (by go_simp) (by go_simp) (by go_simp) (by go_simp) (by go_simp) (by go_simp)) Try.underlying31 rfl (by kernel_rfl)) rfl ?_
  exact ⟨rfl, by go_grown⟩
set_option maxHeartbeats 4000000 in
theorem specRenoTimeout_no {k wn th fl ac la og st fr : Int} (sl : Bool) (w : World) (h1 : ccB k wn th fl ac la og st fr = false) : Calls Try.prog 21 #[.agg #[.int .i64 k, .int .i64 wn, .int .i64 th, .int .i64 fl, .int .i64 ac, .int .i64 la, .int .i64 og, .int .i64 st, .int .i64 fr, .bool sl]] w fun e w' => e = .returned (.agg #[.int .i64 0, .int .i64 0, .int .i64 0, .int .i64 0, .int .i64 0, .int .i64 0, .int .i64 0, .int .i64 0, .int .i64 0, .bool false]) ∧ Below w.heap.size w w' := by
  go_enter Try.func21, Try.ntmps21
  go_wp2_with (first
    | (go_at_call 23; refine (specCcOk_is h1 _ _).mono ?_; rintro e w2 ⟨rfl, rfl⟩))
  refine bodyPost_ret (results_one rfl _ _ _ [.int .i64 0, .int .i64 0, .int .i64 0, .int .i64 0, .int .i64 0, .int .i64 0, .int .i64 0, .int .i64 0, .int .i64 0, .bool false] rfl (cells_ten (by go_simp) (by go_simp) (by go_simp) (by go_simp) (by go_simp) (by go_simp) (by go_simp) (by go_simp) (by go_simp) (by go_simp)) Try.underlying31 rfl (by kernel_rfl)) rfl ?_
  exact ⟨rfl, by go_grown⟩
set_option maxHeartbeats 4000000 in
theorem specRenoTimeout_yes {k wn th fl ac la og st fr : Int} (sl : Bool) (w : World) (h1 : ccB k wn th fl ac la og st fr = true) : Calls Try.prog 21 #[.agg #[.int .i64 k, .int .i64 wn, .int .i64 th, .int .i64 fl, .int .i64 ac, .int .i64 la, .int .i64 og, .int .i64 st, .int .i64 fr, .bool sl]] w fun e w' => e = .returned (.agg #[.int .i64 k, .int .i64 3000, .int .i64 (halfW wn), .int .i64 0, .int .i64 0, .int .i64 la, .int .i64 og, .int .i64 st, .int .i64 fr, .bool false]) ∧ Below w.heap.size w w' := by
  obtain ⟨_, ⟨wn0, wn1⟩, _⟩ := cc_num h1
  have ed := tdiv10 (x := wn) (by omega) 2
  have hm : ∀ w : World, Calls Try.prog 57 #[.int .i64 3000, .int .i64 (wn / 2)] w fun e w' => e = .returned (.int .i64 (halfW wn)) ∧ w' = w := max10_any 3000 (wn / 2)
  go_enter Try.func21, Try.ntmps21
  go_wp2_with (first
    | (go_at_call 23; refine (specCcOk_is h1 _ _).mono ?_; rintro e w2 ⟨rfl, rfl⟩)
    | (go_at_call 57; (try rw [ed]); refine (hm _).mono ?_; rintro e w3 ⟨rfl, rfl⟩))
  refine bodyPost_ret (results_one rfl _ _ _ [.int .i64 k, .int .i64 3000, .int .i64 (halfW wn), .int .i64 0, .int .i64 0, .int .i64 la, .int .i64 og, .int .i64 st, .int .i64 fr, .bool false] rfl (cells_ten (by go_simp) (by go_simp) (by go_simp) (by go_simp) (by go_simp) (by go_simp) (by go_simp) (by go_simp) (by go_simp) (by go_simp)) Try.underlying31 rfl (by kernel_rfl)) rfl ?_
  exact ⟨rfl, by go_grown⟩
end Go.Proofs.Ytiibafphgjlffae

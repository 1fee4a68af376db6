/- What impl's RenoLoss and RenoTimeout answer. -/
import Derived.Test.YtmophpbfaonfmaeLoss
import Derived.Handy
namespace Go.Proofs.Ytmophpbfaonfmae
open Go.ChangeShapes Go.WideShapes Go.ChangeAt Go.RowKit
set_option maxRecDepth 100000
set_option linter.unusedVariables false

set_option maxHeartbeats 4000000 in
theorem implRenoLoss_no {k wn th fl ac la og st fr : Int} (sl : Bool) (w : World) (h1 : ccB k wn th fl ac la og st fr = false) : Calls Try.prog 16 #[.agg #[.int .i64 k, .int .i64 wn, .int .i64 th, .int .i64 fl, .int .i64 ac, .int .i64 la, .int .i64 og, .int .i64 st, .int .i64 fr, .bool sl]] w fun e w' => e = .returned (.agg #[.int .i64 0, .int .i64 0, .int .i64 0, .int .i64 0, .int .i64 0, .int .i64 0, .int .i64 0, .int .i64 0, .int .i64 0, .bool false]) ∧ Below w.heap.size w w' := by
  go_enter Try.func16, Try.ntmps16
  go_wp2_with (first
    | (go_at_call 21; refine (implCcOk_is h1 _ _).mono ?_; rintro e w2 ⟨rfl, rfl⟩))
  refine bodyPost_ret (results_one rfl _ _ _ [.int .i64 0, .int .i64 0, .int .i64 0, .int .i64 0, .int .i64 0, .int .i64 0, .int .i64 0, .int .i64 0, .int .i64 0, .bool false] rfl (cells_ten (by go_simp) (by go_simp) (by go_simp) (by go_simp) (by go_simp) (by go_simp) (by go_simp) (by go_simp) (by go_simp) (by go_simp)) Try.underlying31 rfl (by kernel_rfl)) rfl ?_
  exact ⟨rfl, by go_grown⟩
set_option maxHeartbeats 4000000 in
theorem implRenoLoss_yes1 {k wn th fl ac la og st fr : Int} (sl : Bool) (w : World) (h1 : ccB k wn th fl ac la og st fr = true) (h2 : wn / 2 < 3000) : Calls Try.prog 16 #[.agg #[.int .i64 k, .int .i64 wn, .int .i64 th, .int .i64 fl, .int .i64 ac, .int .i64 la, .int .i64 og, .int .i64 st, .int .i64 fr, .bool sl]] w fun e w' => e = .returned (.agg #[.int .i64 k, .int .i64 3000, .int .i64 3000, .int .i64 fl, .int .i64 0, .int .i64 la, .int .i64 og, .int .i64 st, .int .i64 fr, .bool false]) ∧ Below w.heap.size w w' := by
  obtain ⟨_, ⟨wn0, wn1⟩, _⟩ := cc_num h1
  have ed := tdiv10 (x := wn) (by omega) 2
  have r1 : IntKind.i64.wrap (wn / 2) = wn / 2 := by rw [IntKind.wrap_i64]; omega
  go_enter Try.func16, Try.ntmps16
  go_wp2_with (first
    | (go_at_call 21; refine (implCcOk_is h1 _ _).mono ?_; rintro e w2 ⟨rfl, rfl⟩)
    | go_in)
  refine bodyPost_ret (results_one rfl _ _ _ [.int .i64 k, .int .i64 3000, .int .i64 3000, .int .i64 fl, .int .i64 0, .int .i64 la, .int .i64 og, .int .i64 st, .int .i64 fr, .bool false] rfl (cells_ten (by go_simp) (by go_simp) (by go_simp) (by go_simp) (by go_simp) (by go_simp) (by go_simp) (by go_simp) (by go_simp) (by go_simp)) Try.underlying31 rfl (by kernel_rfl)) rfl ?_
  exact ⟨rfl, by go_grown⟩
set_option maxHeartbeats 4000000 in
theorem implRenoLoss_yes2 {k wn th fl ac la og st fr : Int} (sl : Bool) (w : World) (h1 : ccB k wn th fl ac la og st fr = true) (h2 : 3000 ≤ wn / 2) : Calls Try.prog 16 #[.agg #[.int .i64 k, .int .i64 wn, .int .i64 th, .int .i64 fl, .int .i64 ac, .int .i64 la, .int .i64 og, .int .i64 st, .int .i64 fr, .bool sl]] w fun e w' => e = .returned (.agg #[.int .i64 k, .int .i64 (wn / 2), .int .i64 (wn / 2), .int .i64 fl, .int .i64 0, .int .i64 la, .int .i64 og, .int .i64 st, .int .i64 fr, .bool false]) ∧ Below w.heap.size w w' := by
  obtain ⟨_, ⟨wn0, wn1⟩, _⟩ := cc_num h1
  have ed := tdiv10 (x := wn) (by omega) 2
  have r1 : IntKind.i64.wrap (wn / 2) = wn / 2 := by rw [IntKind.wrap_i64]; omega
  go_enter Try.func16, Try.ntmps16
  go_wp2_with (first
    | (go_at_call 21; refine (implCcOk_is h1 _ _).mono ?_; rintro e w2 ⟨rfl, rfl⟩)
    | go_in)
  refine bodyPost_ret (results_one rfl _ _ _ [.int .i64 k, .int .i64 (wn / 2), .int .i64 (wn / 2), .int .i64 fl, .int .i64 0, .int .i64 la, .int .i64 og, .int .i64 st, .int .i64 fr, .bool false] rfl (cells_ten (by go_simp) (by go_simp) (by go_simp) (by go_simp) (by go_simp) (by go_simp) (by go_simp) (by go_simp) (by go_simp) (by go_simp)) Try.underlying31 rfl (by kernel_rfl)) rfl ?_
  exact ⟨rfl, by go_grown⟩
theorem implRenoLoss_yes {k wn th fl ac la og st fr : Int} (sl : Bool) (w : World) (h1 : ccB k wn th fl ac la og st fr = true) : Calls Try.prog 16 #[.agg #[.int .i64 k, .int .i64 wn, .int .i64 th, .int .i64 fl, .int .i64 ac, .int .i64 la, .int .i64 og, .int .i64 st, .int .i64 fr, .bool sl]] w fun e w' => e = .returned (.agg #[.int .i64 k, .int .i64 (halfW wn), .int .i64 (halfW wn), .int .i64 fl, .int .i64 0, .int .i64 la, .int .i64 og, .int .i64 st, .int .i64 fr, .bool false]) ∧ Below w.heap.size w w' := by
  by_cases h2 : wn / 2 < 3000
  · rw [show halfW wn = 3000 by unfold halfW; omega]
    exact implRenoLoss_yes1 sl w h1 h2
  · rw [show halfW wn = wn / 2 by unfold halfW; omega]
    exact implRenoLoss_yes2 sl w h1 (by omega)
set_option maxHeartbeats 4000000 in
theorem implRenoTimeout_no {k wn th fl ac la og st fr : Int} (sl : Bool) (w : World) (h1 : ccB k wn th fl ac la og st fr = false) : Calls Try.prog 17 #[.agg #[.int .i64 k, .int .i64 wn, .int .i64 th, .int .i64 fl, .int .i64 ac, .int .i64 la, .int .i64 og, .int .i64 st, .int .i64 fr, .bool sl]] w fun e w' => e = .returned (.agg #[.int .i64 0, .int .i64 0, .int .i64 0, .int .i64 0, .int .i64 0, .int .i64 0, .int .i64 0, .int .i64 0, .int .i64 0, .bool false]) ∧ Below w.heap.size w w' := by
  go_enter Try.func17, Try.ntmps17
  go_wp2_with (first
    | (go_at_call 21; refine (implCcOk_is h1 _ _).mono ?_; rintro e w2 ⟨rfl, rfl⟩))
  refine bodyPost_ret (results_one rfl _ _ _ [.int .i64 0, .int .i64 0, .int .i64 0, .int .i64 0, .int .i64 0, .int .i64 0, .int .i64 0, .int .i64 0, .int .i64 0, .bool false] rfl (cells_ten (by go_simp) (by go_simp) (by go_simp) (by go_simp) (by go_simp) (by go_simp) (by go_simp) (by go_simp) (by go_simp) (by go_simp)) Try.underlying31 rfl (by kernel_rfl)) rfl ?_
  exact ⟨rfl, by go_grown⟩
set_option maxHeartbeats 4000000 in
theorem implRenoTimeout_yes1 {k wn th fl ac la og st fr : Int} (sl : Bool) (w : World) (h1 : ccB k wn th fl ac la og st fr = true) (h2 : wn / 2 < 3000) : Calls Try.prog 17 #[.agg #[.int .i64 k, .int .i64 wn, .int .i64 th, .int .i64 fl, .int .i64 ac, .int .i64 la, .int .i64 og, .int .i64 st, .int .i64 fr, .bool sl]] w fun e w' => e = .returned (.agg #[.int .i64 k, .int .i64 3000, .int .i64 3000, .int .i64 0, .int .i64 0, .int .i64 la, .int .i64 og, .int .i64 st, .int .i64 fr, .bool false]) ∧ Below w.heap.size w w' := by
  obtain ⟨_, ⟨wn0, wn1⟩, _⟩ := cc_num h1
  have ed := tdiv10 (x := wn) (by omega) 2
  have r1 : IntKind.i64.wrap (wn / 2) = wn / 2 := by rw [IntKind.wrap_i64]; omega
  go_enter Try.func17, Try.ntmps17
  go_wp2_with (first
    | (go_at_call 21; refine (implCcOk_is h1 _ _).mono ?_; rintro e w2 ⟨rfl, rfl⟩)
    | go_in)
  refine bodyPost_ret (results_one rfl _ _ _ [.int .i64 k, .int .i64 3000, .int .i64 3000, .int .i64 0, .int .i64 0, .int .i64 la, .int .i64 og, .int .i64 st, .int .i64 fr, .bool false] rfl (cells_ten (by go_simp) (by go_simp) (by go_simp) (by go_simp) (by go_simp) (by go_simp) (by go_simp) (by go_simp) (by go_simp) (by go_simp)) Try.underlying31 rfl (by kernel_rfl)) rfl ?_
  exact ⟨rfl, by go_grown⟩
set_option maxHeartbeats 4000000 in
theorem implRenoTimeout_yes2 {k wn th fl ac la og st fr : Int} (sl : Bool) (w : World) (h1 : ccB k wn th fl ac la og st fr = true) (h2 : 3000 ≤ wn / 2) : Calls Try.prog 17 #[.agg #[.int .i64 k, .int .i64 wn, .int .i64 th, .int .i64 fl, .int .i64 ac, .int .i64 la, .int .i64 og, .int .i64 st, .int .i64 fr, .bool sl]] w fun e w' => e = .returned (.agg #[.int .i64 k, .int .i64 3000, .int .i64 (wn / 2), .int .i64 0, .int .i64 0, .int .i64 la, .int .i64 og, .int .i64 st, .int .i64 fr, .bool false]) ∧ Below w.heap.size w w' := by
  obtain ⟨_, ⟨wn0, wn1⟩, _⟩ := cc_num h1
  have ed := tdiv10 (x := wn) (by omega) 2
  have r1 : IntKind.i64.wrap (wn / 2) = wn / 2 := by rw [IntKind.wrap_i64]; omega
  go_enter Try.func17, Try.ntmps17
  go_wp2_with (first
    | (go_at_call 21; refine (implCcOk_is h1 _ _).mono ?_; rintro e w2 ⟨rfl, rfl⟩)
    | go_in)
  refine bodyPost_ret (results_one rfl _ _ _ [.int .i64 k, .int .i64 3000, .int .i64 (wn / 2), .int .i64 0, .int .i64 0, .int .i64 la, .int .i64 og, .int .i64 st, .int .i64 fr, .bool false] rfl (cells_ten (by go_simp) (by go_simp) (by go_simp) (by go_simp) (by go_simp) (by go_simp) (by go_simp) (by go_simp) (by go_simp) (by go_simp)) Try.underlying31 rfl (by kernel_rfl)) rfl ?_
  exact ⟨rfl, by go_grown⟩
theorem implRenoTimeout_yes {k wn th fl ac la og st fr : Int} (sl : Bool) (w : World) (h1 : ccB k wn th fl ac la og st fr = true) : Calls Try.prog 17 #[.agg #[.int .i64 k, .int .i64 wn, .int .i64 th, .int .i64 fl, .int .i64 ac, .int .i64 la, .int .i64 og, .int .i64 st, .int .i64 fr, .bool sl]] w fun e w' => e = .returned (.agg #[.int .i64 k, .int .i64 3000, .int .i64 (halfW wn), .int .i64 0, .int .i64 0, .int .i64 la, .int .i64 og, .int .i64 st, .int .i64 fr, .bool false]) ∧ Below w.heap.size w w' := by
  by_cases h2 : wn / 2 < 3000
  · rw [show halfW wn = 3000 by unfold halfW; omega]
    exact implRenoTimeout_yes1 sl w h1 h2
  · rw [show halfW wn = wn / 2 by unfold halfW; omega]
    exact implRenoTimeout_yes2 sl w h1 (by omega)
end Go.Proofs.Ytmophpbfaonfmae

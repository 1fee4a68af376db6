/- What impl's CubicLoss answers. -/
import Derived.Test.YtmophpbfaonfmaeSpecCubLoss
import Derived.Handy
namespace Go.Proofs.Ytmophpbfaonfmae
open Go.ChangeShapes Go.WideShapes Go.ChangeAt Go.RowKit
set_option maxRecDepth 100000
set_option linter.unusedVariables false
set_option linter.unusedSimpArgs false

set_option maxHeartbeats 4000000 in
theorem implCubicLoss_no {k wn th fl ac la og st fr : Int} (sl : Bool) (w : World) (h1 : ccB k wn th fl ac la og st fr = false) : Calls Try.prog 37 #[.agg #[.int .i64 k, .int .i64 wn, .int .i64 th, .int .i64 fl, .int .i64 ac, .int .i64 la, .int .i64 og, .int .i64 st, .int .i64 fr, .bool sl]] w fun e w' => e = .returned (.agg #[.int .i64 0, .int .i64 0, .int .i64 0, .int .i64 0, .int .i64 0, .int .i64 0, .int .i64 0, .int .i64 0, .int .i64 0, .bool false]) ∧ Below w.heap.size w w' := by
  go_enter Try.func37, Try.ntmps37
  go_wp2_with (first
    | (go_at_call 21; refine (implCcOk_is h1 _ _).mono ?_; rintro e w2 ⟨rfl, rfl⟩))
  refine bodyPost_ret (results_one rfl _ _ _ [.int .i64 0, .int .i64 0, .int .i64 0, .int .i64 0, .int .i64 0, .int .i64 0, .int .i64 0, .int .i64 0, .int .i64 0, .bool false] rfl (cells_ten (by go_simp) (by go_simp) (by go_simp) (by go_simp) (by go_simp) (by go_simp) (by go_simp) (by go_simp) (by go_simp) (by go_simp)) Try.underlying31 rfl (by kernel_rfl)) rfl ?_
  exact ⟨rfl, by go_grown⟩
set_option maxHeartbeats 4000000 in
theorem implCubicLoss_a {k wn th fl ac la og st fr : Int} (sl : Bool) (w : World) (h1 : ccB k wn th fl ac la og st fr = true) (h2 : wn < la) (h3 : 7 * wn / 10 < 3000) : Calls Try.prog 37 #[.agg #[.int .i64 k, .int .i64 wn, .int .i64 th, .int .i64 fl, .int .i64 ac, .int .i64 la, .int .i64 og, .int .i64 st, .int .i64 fr, .bool sl]] w fun e w' => e = .returned (.agg #[.int .i64 k, .int .i64 3000, .int .i64 3000, .int .i64 fl, .int .i64 0, .int .i64 (17 * wn / 20), .int .i64 0, .int .i64 0, .int .i64 0, .bool false]) ∧ Below w.heap.size w w' := by
  obtain ⟨_, ⟨wn0, wn1⟩, _, _, _, ⟨la0, la1⟩, _⟩ := cc_num h1
  have r1 : IntKind.i64.wrap (7 * wn) = 7 * wn := by rw [IntKind.wrap_i64]; omega
  have r2 : IntKind.i64.wrap (17 * wn) = 17 * wn := by rw [IntKind.wrap_i64]; omega
  have ed := tdiv10 (x := 7 * wn) (by omega) 10
  have ee := tdiv10 (x := 17 * wn) (by omega) 20
  have r3 : IntKind.i64.wrap (7 * wn / 10) = 7 * wn / 10 := by rw [IntKind.wrap_i64]; omega
  have r4 : IntKind.i64.wrap (17 * wn / 20) = 17 * wn / 20 := by rw [IntKind.wrap_i64]; omega
  go_enter Try.func37, Try.ntmps37
  go_wp2_with (first
    | (go_at_call 21; refine (implCcOk_is h1 _ _).mono ?_; rintro e w2 ⟨rfl, rfl⟩)
    | go_in)
  refine bodyPost_ret (results_one rfl _ _ _ [.int .i64 k, .int .i64 3000, .int .i64 3000, .int .i64 fl, .int .i64 0, .int .i64 (17 * wn / 20), .int .i64 0, .int .i64 0, .int .i64 0, .bool false] rfl (cells_ten (by go_simp) (by go_simp) (by go_simp) (by go_simp) (by go_simp) (by go_simp) (by go_simp) (by go_simp) (by go_simp) (by go_simp)) Try.underlying31 rfl (by kernel_rfl)) rfl ?_
  exact ⟨rfl, by go_grown⟩
set_option maxHeartbeats 4000000 in
theorem implCubicLoss_b {k wn th fl ac la og st fr : Int} (sl : Bool) (w : World) (h1 : ccB k wn th fl ac la og st fr = true) (h2 : wn < la) (h3 : 3000 ≤ 7 * wn / 10) : Calls Try.prog 37 #[.agg #[.int .i64 k, .int .i64 wn, .int .i64 th, .int .i64 fl, .int .i64 ac, .int .i64 la, .int .i64 og, .int .i64 st, .int .i64 fr, .bool sl]] w fun e w' => e = .returned (.agg #[.int .i64 k, .int .i64 (7 * wn / 10), .int .i64 (7 * wn / 10), .int .i64 fl, .int .i64 0, .int .i64 (17 * wn / 20), .int .i64 0, .int .i64 0, .int .i64 0, .bool false]) ∧ Below w.heap.size w w' := by
  obtain ⟨_, ⟨wn0, wn1⟩, _, _, _, ⟨la0, la1⟩, _⟩ := cc_num h1
  have r1 : IntKind.i64.wrap (7 * wn) = 7 * wn := by rw [IntKind.wrap_i64]; omega
  have r2 : IntKind.i64.wrap (17 * wn) = 17 * wn := by rw [IntKind.wrap_i64]; omega
  have ed := tdiv10 (x := 7 * wn) (by omega) 10
  have ee := tdiv10 (x := 17 * wn) (by omega) 20
  have r3 : IntKind.i64.wrap (7 * wn / 10) = 7 * wn / 10 := by rw [IntKind.wrap_i64]; omega
  have r4 : IntKind.i64.wrap (17 * wn / 20) = 17 * wn / 20 := by rw [IntKind.wrap_i64]; omega
  go_enter Try.func37, Try.ntmps37
  go_wp2_with (first
    | (go_at_call 21; refine (implCcOk_is h1 _ _).mono ?_; rintro e w2 ⟨rfl, rfl⟩)
    | go_in)
  refine bodyPost_ret (results_one rfl _ _ _ [.int .i64 k, .int .i64 (7 * wn / 10), .int .i64 (7 * wn / 10), .int .i64 fl, .int .i64 0, .int .i64 (17 * wn / 20), .int .i64 0, .int .i64 0, .int .i64 0, .bool false] rfl (cells_ten (by go_simp) (by go_simp) (by go_simp) (by go_simp) (by go_simp) (by go_simp) (by go_simp) (by go_simp) (by go_simp) (by go_simp)) Try.underlying31 rfl (by kernel_rfl)) rfl ?_
  exact ⟨rfl, by go_grown⟩
set_option maxHeartbeats 4000000 in
theorem implCubicLoss_c {k wn th fl ac la og st fr : Int} (sl : Bool) (w : World) (h1 : ccB k wn th fl ac la og st fr = true) (h2 : ¬ wn < la) (h3 : 7 * wn / 10 < 3000) : Calls Try.prog 37 #[.agg #[.int .i64 k, .int .i64 wn, .int .i64 th, .int .i64 fl, .int .i64 ac, .int .i64 la, .int .i64 og, .int .i64 st, .int .i64 fr, .bool sl]] w fun e w' => e = .returned (.agg #[.int .i64 k, .int .i64 3000, .int .i64 3000, .int .i64 fl, .int .i64 0, .int .i64 wn, .int .i64 0, .int .i64 0, .int .i64 0, .bool false]) ∧ Below w.heap.size w w' := by
  obtain ⟨_, ⟨wn0, wn1⟩, _, _, _, ⟨la0, la1⟩, _⟩ := cc_num h1
  have r1 : IntKind.i64.wrap (7 * wn) = 7 * wn := by rw [IntKind.wrap_i64]; omega
  have r2 : IntKind.i64.wrap (17 * wn) = 17 * wn := by rw [IntKind.wrap_i64]; omega
  have ed := tdiv10 (x := 7 * wn) (by omega) 10
  have ee := tdiv10 (x := 17 * wn) (by omega) 20
  have r3 : IntKind.i64.wrap (7 * wn / 10) = 7 * wn / 10 := by rw [IntKind.wrap_i64]; omega
  have r4 : IntKind.i64.wrap (17 * wn / 20) = 17 * wn / 20 := by rw [IntKind.wrap_i64]; omega
  go_enter Try.func37, Try.ntmps37
  go_wp2_with (first
    | (go_at_call 21; refine (implCcOk_is h1 _ _).mono ?_; rintro e w2 ⟨rfl, rfl⟩)
    | go_in)
  refine bodyPost_ret (results_one rfl _ _ _ [.int .i64 k, .int .i64 3000, .int .i64 3000, .int .i64 fl, .int .i64 0, .int .i64 wn, .int .i64 0, .int .i64 0, .int .i64 0, .bool false] rfl (cells_ten (by go_simp) (by go_simp) (by go_simp) (by go_simp) (by go_simp) (by go_simp) (by go_simp) (by go_simp) (by go_simp) (by go_simp)) Try.underlying31 rfl (by kernel_rfl)) rfl ?_
  exact ⟨rfl, by go_grown⟩
set_option maxHeartbeats 4000000 in
theorem implCubicLoss_d {k wn th fl ac la og st fr : Int} (sl : Bool) (w : World) (h1 : ccB k wn th fl ac la og st fr = true) (h2 : ¬ wn < la) (h3 : 3000 ≤ 7 * wn / 10) : Calls Try.prog 37 #[.agg #[.int .i64 k, .int .i64 wn, .int .i64 th, .int .i64 fl, .int .i64 ac, .int .i64 la, .int .i64 og, .int .i64 st, .int .i64 fr, .bool sl]] w fun e w' => e = .returned (.agg #[.int .i64 k, .int .i64 (7 * wn / 10), .int .i64 (7 * wn / 10), .int .i64 fl, .int .i64 0, .int .i64 wn, .int .i64 0, .int .i64 0, .int .i64 0, .bool false]) ∧ Below w.heap.size w w' := by
  obtain ⟨_, ⟨wn0, wn1⟩, _, _, _, ⟨la0, la1⟩, _⟩ := cc_num h1
  have r1 : IntKind.i64.wrap (7 * wn) = 7 * wn := by rw [IntKind.wrap_i64]; omega
  have r2 : IntKind.i64.wrap (17 * wn) = 17 * wn := by rw [IntKind.wrap_i64]; omega
  have ed := tdiv10 (x := 7 * wn) (by omega) 10
  have ee := tdiv10 (x := 17 * wn) (by omega) 20
  have r3 : IntKind.i64.wrap (7 * wn / 10) = 7 * wn / 10 := by rw [IntKind.wrap_i64]; omega
  have r4 : IntKind.i64.wrap (17 * wn / 20) = 17 * wn / 20 := by rw [IntKind.wrap_i64]; omega
  go_enter Try.func37, Try.ntmps37
  go_wp2_with (first
    | (go_at_call 21; refine (implCcOk_is h1 _ _).mono ?_; rintro e w2 ⟨rfl, rfl⟩)
    | go_in)
  refine bodyPost_ret (results_one rfl _ _ _ [.int .i64 k, .int .i64 (7 * wn / 10), .int .i64 (7 * wn / 10), .int .i64 fl, .int .i64 0, .int .i64 wn, .int .i64 0, .int .i64 0, .int .i64 0, .bool false] rfl (cells_ten (by go_simp) (by go_simp) (by go_simp) (by go_simp) (by go_simp) (by go_simp) (by go_simp) (by go_simp) (by go_simp) (by go_simp)) Try.underlying31 rfl (by kernel_rfl)) rfl ?_
  exact ⟨rfl, by go_grown⟩
theorem implCubicLoss_yes {k wn th fl ac la og st fr : Int} (sl : Bool) (w : World) (h1 : ccB k wn th fl ac la og st fr = true) : Calls Try.prog 37 #[.agg #[.int .i64 k, .int .i64 wn, .int .i64 th, .int .i64 fl, .int .i64 ac, .int .i64 la, .int .i64 og, .int .i64 st, .int .i64 fr, .bool sl]] w fun e w' => e = .returned (.agg #[.int .i64 k, .int .i64 (tenW wn), .int .i64 (tenW wn), .int .i64 fl, .int .i64 0, .int .i64 (lastW wn la), .int .i64 0, .int .i64 0, .int .i64 0, .bool false]) ∧ Below w.heap.size w w' := by
  by_cases h3 : 7 * wn / 10 < 3000
  · rw [show tenW wn = 3000 by unfold tenW; omega]
    by_cases h2 : wn < la
    · rw [show lastW wn la = 17 * wn / 20 from if_pos h2]
      exact implCubicLoss_a sl w h1 h2 h3
    · rw [show lastW wn la = wn from if_neg h2]
      exact implCubicLoss_c sl w h1 h2 h3
  · rw [show tenW wn = 7 * wn / 10 by unfold tenW; omega]
    by_cases h2 : wn < la
    · rw [show lastW wn la = 17 * wn / 20 from if_pos h2]
      exact implCubicLoss_b sl w h1 h2 (by omega)
    · rw [show lastW wn la = wn from if_neg h2]
      exact implCubicLoss_d sl w h1 h2 (by omega)
end Go.Proofs.Ytmophpbfaonfmae

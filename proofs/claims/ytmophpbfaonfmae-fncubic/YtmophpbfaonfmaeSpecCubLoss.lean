/- What spec's CubicLoss answers. -/
import Derived.Test.YtmophpbfaonfmaeLoss
namespace Go.Proofs.Ytmophpbfaonfmae
open Go.ChangeShapes Go.WideShapes Go.ChangeAt Go.RowKit
set_option maxRecDepth 100000
set_option linter.unusedVariables false
set_option linter.unusedSimpArgs false

def tenW (wn : Int) : Int := max 3000 (7 * wn / 10)
def lastW (wn la : Int) : Int := if wn < la then 17 * wn / 20 else wn
set_option maxHeartbeats 4000000 in
theorem specCubicLoss_no {k wn th fl ac la og st fr : Int} (sl : Bool) (w : World) (h1 : ccB k wn th fl ac la og st fr = false) : Calls Try.prog 39 #[.agg #[.int .i64 k, .int .i64 wn, .int .i64 th, .int .i64 fl, .int .i64 ac, .int .i64 la, .int .i64 og, .int .i64 st, .int .i64 fr, .bool sl]] w fun e w' => e = .returned (.agg #[.int .i64 0, .int .i64 0, .int .i64 0, .int .i64 0, .int .i64 0, .int .i64 0, .int .i64 0, .int .i64 0, .int .i64 0, .bool false]) ∧ Below w.heap.size w w' := by
  go_enter Try.func39, Try.ntmps39
  go_wp2_with (first
    | (go_at_call 22; refine (specCcOk_is h1 _ _).mono ?_; rintro e w2 ⟨rfl, rfl⟩))
  refine bodyPost_ret (results_one rfl _ _ _ [.int .i64 0, .int .i64 0, .int .i64 0, .int .i64 0, .int .i64 0, .int .i64 0, .int .i64 0, .int .i64 0, .int .i64 0, .bool false] rfl (cells_ten (by go_simp) (by go_simp) (by go_simp) (by go_simp) (by go_simp) (by go_simp) (by go_simp) (by go_simp) (by go_simp) (by go_simp)) Try.underlying31 rfl (by kernel_rfl)) rfl ?_
  exact ⟨rfl, by go_grown⟩
set_option maxHeartbeats 4000000 in
theorem specCubicLoss_yes1 {k wn th fl ac la og st fr : Int} (sl : Bool) (w : World) (h1 : ccB k wn th fl ac la og st fr = true) (h2 : wn < la) : Calls Try.prog 39 #[.agg #[.int .i64 k, .int .i64 wn, .int .i64 th, .int .i64 fl, .int .i64 ac, .int .i64 la, .int .i64 og, .int .i64 st, .int .i64 fr, .bool sl]] w fun e w' => e = .returned (.agg #[.int .i64 k, .int .i64 (tenW wn), .int .i64 (tenW wn), .int .i64 fl, .int .i64 0, .int .i64 (17 * wn / 20), .int .i64 0, .int .i64 0, .int .i64 0, .bool false]) ∧ Below w.heap.size w w' := by
  obtain ⟨_, ⟨wn0, wn1⟩, _, _, _, ⟨la0, la1⟩, _⟩ := cc_num h1
  have r1 : IntKind.i64.wrap (7 * wn) = 7 * wn := by rw [IntKind.wrap_i64]; omega
  have r2 : IntKind.i64.wrap (17 * wn) = 17 * wn := by rw [IntKind.wrap_i64]; omega
  have ed := tdiv10 (x := 7 * wn) (by omega) 10
  have ee := tdiv10 (x := 17 * wn) (by omega) 20
  have r3 : IntKind.i64.wrap (7 * wn / 10) = 7 * wn / 10 := by rw [IntKind.wrap_i64]; omega
  have r4 : IntKind.i64.wrap (17 * wn / 20) = 17 * wn / 20 := by rw [IntKind.wrap_i64]; omega
  have hm : ∀ w : World, Calls Try.prog 43 #[.int .i64 3000, .int .i64 (7 * wn / 10)] w fun e w' => e = .returned (.int .i64 (tenW wn)) ∧ w' = w := max10_any 3000 (7 * wn / 10)
  go_enter Try.func39, Try.ntmps39
  go_wp2_with (first
    | (go_at_call 22; refine (specCcOk_is h1 _ _).mono ?_; rintro e w2 ⟨rfl, rfl⟩)
    | (go_at_call 43; (try rw [ed]); refine (hm _).mono ?_; rintro e w2 ⟨rfl, rfl⟩))
  refine bodyPost_ret (results_one rfl _ _ _ [.int .i64 k, .int .i64 (tenW wn), .int .i64 (tenW wn), .int .i64 fl, .int .i64 0, .int .i64 (17 * wn / 20), .int .i64 0, .int .i64 0, .int .i64 0, .bool false] rfl (cells_ten (by go_simp) (by go_simp) (by go_simp) (by go_simp) (by go_simp) (by go_simp) (by go_simp) (by go_simp) (by go_simp) (by go_simp)) Try.underlying31 rfl (by kernel_rfl)) rfl ?_
  exact ⟨rfl, by go_grown⟩
set_option maxHeartbeats 4000000 in
theorem specCubicLoss_yes2 {k wn th fl ac la og st fr : Int} (sl : Bool) (w : World) (h1 : ccB k wn th fl ac la og st fr = true) (h2 : ¬ wn < la) : Calls Try.prog 39 #[.agg #[.int .i64 k, .int .i64 wn, .int .i64 th, .int .i64 fl, .int .i64 ac, .int .i64 la, .int .i64 og, .int .i64 st, .int .i64 fr, .bool sl]] w fun e w' => e = .returned (.agg #[.int .i64 k, .int .i64 (tenW wn), .int .i64 (tenW wn), .int .i64 fl, .int .i64 0, .int .i64 wn, .int .i64 0, .int .i64 0, .int .i64 0, .bool false]) ∧ Below w.heap.size w w' := by
  obtain ⟨_, ⟨wn0, wn1⟩, _, _, _, ⟨la0, la1⟩, _⟩ := cc_num h1
  have r1 : IntKind.i64.wrap (7 * wn) = 7 * wn := by rw [IntKind.wrap_i64]; omega
  have r2 : IntKind.i64.wrap (17 * wn) = 17 * wn := by rw [IntKind.wrap_i64]; omega
  have ed := tdiv10 (x := 7 * wn) (by omega) 10
  have ee := tdiv10 (x := 17 * wn) (by omega) 20
  have r3 : IntKind.i64.wrap (7 * wn / 10) = 7 * wn / 10 := by rw [IntKind.wrap_i64]; omega
  have r4 : IntKind.i64.wrap (17 * wn / 20) = 17 * wn / 20 := by rw [IntKind.wrap_i64]; omega
  have hm : ∀ w : World, Calls Try.prog 43 #[.int .i64 3000, .int .i64 (7 * wn / 10)] w fun e w' => e = .returned (.int .i64 (tenW wn)) ∧ w' = w := max10_any 3000 (7 * wn / 10)
  go_enter Try.func39, Try.ntmps39
  go_wp2_with (first
    | (go_at_call 22; refine (specCcOk_is h1 _ _).mono ?_; rintro e w2 ⟨rfl, rfl⟩)
    | (go_at_call 43; (try rw [ed]); refine (hm _).mono ?_; rintro e w2 ⟨rfl, rfl⟩))
  refine bodyPost_ret (results_one rfl _ _ _ [.int .i64 k, .int .i64 (tenW wn), .int .i64 (tenW wn), .int .i64 fl, .int .i64 0, .int .i64 wn, .int .i64 0, .int .i64 0, .int .i64 0, .bool false] rfl (cells_ten (by go_simp) (by go_simp) (by go_simp) (by go_simp) (by go_simp) (by go_simp) (by go_simp) (by go_simp) (by go_simp) (by go_simp)) Try.underlying31 rfl (by kernel_rfl)) rfl ?_
  exact ⟨rfl, by go_grown⟩
theorem specCubicLoss_yes {k wn th fl ac la og st fr : Int} (sl : Bool) (w : World) (h1 : ccB k wn th fl ac la og st fr = true) : Calls Try.prog 39 #[.agg #[.int .i64 k, .int .i64 wn, .int .i64 th, .int .i64 fl, .int .i64 ac, .int .i64 la, .int .i64 og, .int .i64 st, .int .i64 fr, .bool sl]] w fun e w' => e = .returned (.agg #[.int .i64 k, .int .i64 (tenW wn), .int .i64 (tenW wn), .int .i64 fl, .int .i64 0, .int .i64 (lastW wn la), .int .i64 0, .int .i64 0, .int .i64 0, .bool false]) ∧ Below w.heap.size w w' := by
  by_cases h2 : wn < la
  · rw [show lastW wn la = 17 * wn / 20 from if_pos h2]
    exact specCubicLoss_yes1 sl w h1 h2
  · rw [show lastW wn la = wn from if_neg h2]
    exact specCubicLoss_yes2 sl w h1 h2
end Go.Proofs.Ytmophpbfaonfmae

/- What chapter 10's Sent answers, spec's and impl's. -/
import Derived.Test.YtmophpbfaonfmaeNewCc
namespace Go.Proofs.Ytmophpbfaonfmae
open Go.ChangeShapes Go.WideShapes Go.ChangeAt Go.RowKit
set_option maxRecDepth 100000
set_option linter.unusedVariables false

def sentB (k wn th fl ac la og st fr n : Int) : Bool := (ccB k wn th fl ac la og st fr && s10B n) && decide (fl + n ≤ wn)
theorem seg_num {x : Int} (h : s10B x = true) : 1 ≤ x ∧ x ≤ 1500 := by
  unfold s10B at h
  simp only [Bool.and_eq_true, decide_eq_true_eq] at h
  exact h
set_option maxHeartbeats 4000000 in
theorem specSent_no1 {k wn th fl ac la og st fr n : Int} (sl : Bool) (w : World) (h1 : ccB k wn th fl ac la og st fr = false) : Calls Try.prog 25 #[.agg #[.int .i64 k, .int .i64 wn, .int .i64 th, .int .i64 fl, .int .i64 ac, .int .i64 la, .int .i64 og, .int .i64 st, .int .i64 fr, .bool sl], .int .i64 n] w fun e w' => e = .returned (.tuple #[.agg #[.int .i64 0, .int .i64 0, .int .i64 0, .int .i64 0, .int .i64 0, .int .i64 0, .int .i64 0, .int .i64 0, .int .i64 0, .bool false], .bool false]) ∧ Below w.heap.size w w' := by
  go_enter Try.func25, Try.ntmps25
  go_wp2_with (first
    | (go_at_call 22; refine (specCcOk_is h1 _ _).mono ?_; rintro e w2 ⟨rfl, rfl⟩))
  refine bodyPost_ret (results_two rfl _ _ _ [.int .i64 0, .int .i64 0, .int .i64 0, .int .i64 0, .int .i64 0, .int .i64 0, .int .i64 0, .int .i64 0, .int .i64 0, .bool false] rfl (cells_ten (by go_simp) (by go_simp) (by go_simp) (by go_simp) (by go_simp) (by go_simp) (by go_simp) (by go_simp) (by go_simp) (by go_simp)) Try.underlying31 rfl (by kernel_rfl)) rfl ?_
  exact ⟨rfl, by go_grown⟩
set_option maxHeartbeats 4000000 in
theorem specSent_no2 {k wn th fl ac la og st fr n : Int} (sl : Bool) (w : World) (h1 : ccB k wn th fl ac la og st fr = true) (h2 : s10B n = false) : Calls Try.prog 25 #[.agg #[.int .i64 k, .int .i64 wn, .int .i64 th, .int .i64 fl, .int .i64 ac, .int .i64 la, .int .i64 og, .int .i64 st, .int .i64 fr, .bool sl], .int .i64 n] w fun e w' => e = .returned (.tuple #[.agg #[.int .i64 0, .int .i64 0, .int .i64 0, .int .i64 0, .int .i64 0, .int .i64 0, .int .i64 0, .int .i64 0, .int .i64 0, .bool false], .bool false]) ∧ Below w.heap.size w w' := by
  go_enter Try.func25, Try.ntmps25
  go_wp2_with (first
    | (go_at_call 22; refine (specCcOk_is h1 _ _).mono ?_; rintro e w2 ⟨rfl, rfl⟩)
    | (go_at_call 62; refine (sSg_is h2 _).mono ?_; rintro e w2 ⟨rfl, rfl⟩))
  refine bodyPost_ret (results_two rfl _ _ _ [.int .i64 0, .int .i64 0, .int .i64 0, .int .i64 0, .int .i64 0, .int .i64 0, .int .i64 0, .int .i64 0, .int .i64 0, .bool false] rfl (cells_ten (by go_simp) (by go_simp) (by go_simp) (by go_simp) (by go_simp) (by go_simp) (by go_simp) (by go_simp) (by go_simp) (by go_simp)) Try.underlying31 rfl (by kernel_rfl)) rfl ?_
  exact ⟨rfl, by go_grown⟩
set_option maxHeartbeats 4000000 in
theorem specSent_no3 {k wn th fl ac la og st fr n : Int} (sl : Bool) (w : World) (h1 : ccB k wn th fl ac la og st fr = true) (h2 : s10B n = true) (h3 : wn < fl + n) : Calls Try.prog 25 #[.agg #[.int .i64 k, .int .i64 wn, .int .i64 th, .int .i64 fl, .int .i64 ac, .int .i64 la, .int .i64 og, .int .i64 st, .int .i64 fr, .bool sl], .int .i64 n] w fun e w' => e = .returned (.tuple #[.agg #[.int .i64 0, .int .i64 0, .int .i64 0, .int .i64 0, .int .i64 0, .int .i64 0, .int .i64 0, .int .i64 0, .int .i64 0, .bool false], .bool false]) ∧ Below w.heap.size w w' := by
  obtain ⟨_, ⟨wn0, wn1⟩, _, ⟨fl0, fl1⟩, _⟩ := cc_num h1
  obtain ⟨n0, n1⟩ := seg_num h2
  have r1 : IntKind.i64.wrap (fl + n) = fl + n := by rw [IntKind.wrap_i64]; omega
  go_enter Try.func25, Try.ntmps25
  go_wp2_with (first
    | (go_at_call 22; refine (specCcOk_is h1 _ _).mono ?_; rintro e w2 ⟨rfl, rfl⟩)
    | (go_at_call 62; refine (sSg_is h2 _).mono ?_; rintro e w2 ⟨rfl, rfl⟩))
  refine bodyPost_ret (results_two rfl _ _ _ [.int .i64 0, .int .i64 0, .int .i64 0, .int .i64 0, .int .i64 0, .int .i64 0, .int .i64 0, .int .i64 0, .int .i64 0, .bool false] rfl (cells_ten (by go_simp) (by go_simp) (by go_simp) (by go_simp) (by go_simp) (by go_simp) (by go_simp) (by go_simp) (by go_simp) (by go_simp)) Try.underlying31 rfl (by kernel_rfl)) rfl ?_
  exact ⟨rfl, by go_grown⟩
set_option maxHeartbeats 4000000 in
theorem specSent_yes {k wn th fl ac la og st fr n : Int} (sl : Bool) (w : World) (h1 : ccB k wn th fl ac la og st fr = true) (h2 : s10B n = true) (h3 : fl + n ≤ wn) : Calls Try.prog 25 #[.agg #[.int .i64 k, .int .i64 wn, .int .i64 th, .int .i64 fl, .int .i64 ac, .int .i64 la, .int .i64 og, .int .i64 st, .int .i64 fr, .bool sl], .int .i64 n] w fun e w' => e = .returned (.tuple #[.agg #[.int .i64 k, .int .i64 wn, .int .i64 th, .int .i64 (fl + n), .int .i64 ac, .int .i64 la, .int .i64 og, .int .i64 st, .int .i64 fr, .bool sl], .bool true]) ∧ Below w.heap.size w w' := by
  obtain ⟨_, ⟨wn0, wn1⟩, _, ⟨fl0, fl1⟩, _⟩ := cc_num h1
  obtain ⟨n0, n1⟩ := seg_num h2
  have r1 : IntKind.i64.wrap (fl + n) = fl + n := by rw [IntKind.wrap_i64]; omega
  have h3' : ¬ wn < fl + n := by omega
  go_enter Try.func25, Try.ntmps25
  go_wp2_with (first
    | (go_at_call 22; refine (specCcOk_is h1 _ _).mono ?_; rintro e w2 ⟨rfl, rfl⟩)
    | (go_at_call 62; refine (sSg_is h2 _).mono ?_; rintro e w2 ⟨rfl, rfl⟩))
  refine bodyPost_ret (results_two rfl _ _ _ [.int .i64 k, .int .i64 wn, .int .i64 th, .int .i64 (fl + n), .int .i64 ac, .int .i64 la, .int .i64 og, .int .i64 st, .int .i64 fr, .bool sl] rfl (cells_ten (by go_simp) (by go_simp) (by go_simp) (by go_simp) (by go_simp) (by go_simp) (by go_simp) (by go_simp) (by go_simp) (by go_simp)) Try.underlying31 rfl (by kernel_rfl)) rfl ?_
  exact ⟨rfl, by go_grown⟩
set_option maxHeartbeats 4000000 in
theorem implSent_no1 {k wn th fl ac la og st fr n : Int} (sl : Bool) (w : World) (h1 : ccB k wn th fl ac la og st fr = false) : Calls Try.prog 24 #[.agg #[.int .i64 k, .int .i64 wn, .int .i64 th, .int .i64 fl, .int .i64 ac, .int .i64 la, .int .i64 og, .int .i64 st, .int .i64 fr, .bool sl], .int .i64 n] w fun e w' => e = .returned (.tuple #[.agg #[.int .i64 0, .int .i64 0, .int .i64 0, .int .i64 0, .int .i64 0, .int .i64 0, .int .i64 0, .int .i64 0, .int .i64 0, .bool false], .bool false]) ∧ Below w.heap.size w w' := by
  go_enter Try.func24, Try.ntmps24
  go_wp2_with (first
    | (go_at_call 21; refine (implCcOk_is h1 _ _).mono ?_; rintro e w2 ⟨rfl, rfl⟩))
  refine bodyPost_ret (results_two rfl _ _ _ [.int .i64 0, .int .i64 0, .int .i64 0, .int .i64 0, .int .i64 0, .int .i64 0, .int .i64 0, .int .i64 0, .int .i64 0, .bool false] rfl (cells_ten (by go_simp) (by go_simp) (by go_simp) (by go_simp) (by go_simp) (by go_simp) (by go_simp) (by go_simp) (by go_simp) (by go_simp)) Try.underlying31 rfl (by kernel_rfl)) rfl ?_
  exact ⟨rfl, by go_grown⟩
set_option maxHeartbeats 4000000 in
theorem implSent_no2 {k wn th fl ac la og st fr n : Int} (sl : Bool) (w : World) (h1 : ccB k wn th fl ac la og st fr = true) (h2 : s10B n = false) : Calls Try.prog 24 #[.agg #[.int .i64 k, .int .i64 wn, .int .i64 th, .int .i64 fl, .int .i64 ac, .int .i64 la, .int .i64 og, .int .i64 st, .int .i64 fr, .bool sl], .int .i64 n] w fun e w' => e = .returned (.tuple #[.agg #[.int .i64 0, .int .i64 0, .int .i64 0, .int .i64 0, .int .i64 0, .int .i64 0, .int .i64 0, .int .i64 0, .int .i64 0, .bool false], .bool false]) ∧ Below w.heap.size w w' := by
  go_enter Try.func24, Try.ntmps24
  go_wp2_with (first
    | (go_at_call 21; refine (implCcOk_is h1 _ _).mono ?_; rintro e w2 ⟨rfl, rfl⟩)
    | (go_at_call 61; refine (iSg_is h2 _).mono ?_; rintro e w2 ⟨rfl, rfl⟩))
  refine bodyPost_ret (results_two rfl _ _ _ [.int .i64 0, .int .i64 0, .int .i64 0, .int .i64 0, .int .i64 0, .int .i64 0, .int .i64 0, .int .i64 0, .int .i64 0, .bool false] rfl (cells_ten (by go_simp) (by go_simp) (by go_simp) (by go_simp) (by go_simp) (by go_simp) (by go_simp) (by go_simp) (by go_simp) (by go_simp)) Try.underlying31 rfl (by kernel_rfl)) rfl ?_
  exact ⟨rfl, by go_grown⟩
set_option maxHeartbeats 4000000 in
theorem implSent_no3 {k wn th fl ac la og st fr n : Int} (sl : Bool) (w : World) (h1 : ccB k wn th fl ac la og st fr = true) (h2 : s10B n = true) (h3 : wn < fl + n) : Calls Try.prog 24 #[.agg #[.int .i64 k, .int .i64 wn, .int .i64 th, .int .i64 fl, .int .i64 ac, .int .i64 la, .int .i64 og, .int .i64 st, .int .i64 fr, .bool sl], .int .i64 n] w fun e w' => e = .returned (.tuple #[.agg #[.int .i64 0, .int .i64 0, .int .i64 0, .int .i64 0, .int .i64 0, .int .i64 0, .int .i64 0, .int .i64 0, .int .i64 0, .bool false], .bool false]) ∧ Below w.heap.size w w' := by
  obtain ⟨_, ⟨wn0, wn1⟩, _, ⟨fl0, fl1⟩, _⟩ := cc_num h1
  obtain ⟨n0, n1⟩ := seg_num h2
  have r1 : IntKind.i64.wrap (fl + n) = fl + n := by rw [IntKind.wrap_i64]; omega
  go_enter Try.func24, Try.ntmps24
  go_wp2_with (first
    | (go_at_call 21; refine (implCcOk_is h1 _ _).mono ?_; rintro e w2 ⟨rfl, rfl⟩)
    | (go_at_call 61; refine (iSg_is h2 _).mono ?_; rintro e w2 ⟨rfl, rfl⟩))
  refine bodyPost_ret (results_two rfl _ _ _ [.int .i64 0, .int .i64 0, .int .i64 0, .int .i64 0, .int .i64 0, .int .i64 0, .int .i64 0, .int .i64 0, .int .i64 0, .bool false] rfl (cells_ten (by go_simp) (by go_simp) (by go_simp) (by go_simp) (by go_simp) (by go_simp) (by go_simp) (by go_simp) (by go_simp) (by go_simp)) Try.underlying31 rfl (by kernel_rfl)) rfl ?_
  exact ⟨rfl, by go_grown⟩
set_option maxHeartbeats 4000000 in
theorem implSent_yes {k wn th fl ac la og st fr n : Int} (sl : Bool) (w : World) (h1 : ccB k wn th fl ac la og st fr = true) (h2 : s10B n = true) (h3 : fl + n ≤ wn) : Calls Try.prog 24 #[.agg #[.int .i64 k, .int .i64 wn, .int .i64 th, .int .i64 fl, .int .i64 ac, .int .i64 la, .int .i64 og, .int .i64 st, .int .i64 fr, .bool sl], .int .i64 n] w fun e w' => e = .returned (.tuple #[.agg #[.int .i64 k, .int .i64 wn, .int .i64 th, .int .i64 (fl + n), .int .i64 ac, .int .i64 la, .int .i64 og, .int .i64 st, .int .i64 fr, .bool sl], .bool true]) ∧ Below w.heap.size w w' := by
  obtain ⟨_, ⟨wn0, wn1⟩, _, ⟨fl0, fl1⟩, _⟩ := cc_num h1
  obtain ⟨n0, n1⟩ := seg_num h2
  have r1 : IntKind.i64.wrap (fl + n) = fl + n := by rw [IntKind.wrap_i64]; omega
  have h3' : ¬ wn < fl + n := by omega
  go_enter Try.func24, Try.ntmps24
  go_wp2_with (first
    | (go_at_call 21; refine (implCcOk_is h1 _ _).mono ?_; rintro e w2 ⟨rfl, rfl⟩)
    | (go_at_call 61; refine (iSg_is h2 _).mono ?_; rintro e w2 ⟨rfl, rfl⟩))
  refine bodyPost_ret (results_two rfl _ _ _ [.int .i64 k, .int .i64 wn, .int .i64 th, .int .i64 (fl + n), .int .i64 ac, .int .i64 la, .int .i64 og, .int .i64 st, .int .i64 fr, .bool sl] rfl (cells_ten (by go_simp) (by go_simp) (by go_simp) (by go_simp) (by go_simp) (by go_simp) (by go_simp) (by go_simp) (by go_simp) (by go_simp)) Try.underlying31 rfl (by kernel_rfl)) rfl ?_
  exact ⟨rfl, by go_grown⟩
end Go.Proofs.Ytmophpbfaonfmae

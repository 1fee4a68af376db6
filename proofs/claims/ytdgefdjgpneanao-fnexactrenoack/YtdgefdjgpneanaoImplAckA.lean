/- What impl.RenoAck answers where it is refused or rises. -/
import Derived.Test.YtdgefdjgpneanaoSpecAck
import Derived.Handy
namespace Go.Proofs.Ytdgefdjgpneanao
open Go.ChangeShapes Go.WideShapes Go.ChangeAt Go.RowKit
set_option maxRecDepth 100000
set_option linter.unusedVariables false
set_option linter.unusedSimpArgs false

set_option maxHeartbeats 4000000 in
theorem implRenoAck_no1 {k wn th fl ac la og st fr n : Int} (sl : Bool) (w : World) (h1 : ccB k wn th fl ac la og st fr = false) : Calls Try.prog 22 #[.agg #[.int .i64 k, .int .i64 wn, .int .i64 th, .int .i64 fl, .int .i64 ac, .int .i64 la, .int .i64 og, .int .i64 st, .int .i64 fr, .bool sl], .int .i64 n] w fun e w' => e = .returned (.agg #[.int .i64 0, .int .i64 0, .int .i64 0, .int .i64 0, .int .i64 0, .int .i64 0, .int .i64 0, .int .i64 0, .int .i64 0, .bool false]) ∧ Below w.heap.size w w' := by
  go_enter Try.func22, Try.ntmps22
  go_wp2_with (first
    | (go_at_call 15; refine (implCcOk_is h1 _ _).mono ?_; rintro e w2 ⟨rfl, rfl⟩))
  refine bodyPost_ret (results_one rfl _ _ _ [.int .i64 0, .int .i64 0, .int .i64 0, .int .i64 0, .int .i64 0, .int .i64 0, .int .i64 0, .int .i64 0, .int .i64 0, .bool false] rfl (cells_ten (by go_simp) (by go_simp) (by go_simp) (by go_simp) (by go_simp) (by go_simp) (by go_simp) (by go_simp) (by go_simp) (by go_simp)) Try.underlying32 rfl (by kernel_rfl)) rfl ?_
  exact ⟨rfl, by go_grown⟩
set_option maxHeartbeats 4000000 in
theorem implRenoAck_no2 {k wn th fl ac la og st fr n : Int} (sl : Bool) (w : World) (h1 : ccB k wn th fl ac la og st fr = true) (h2 : n10B n = false) : Calls Try.prog 22 #[.agg #[.int .i64 k, .int .i64 wn, .int .i64 th, .int .i64 fl, .int .i64 ac, .int .i64 la, .int .i64 og, .int .i64 st, .int .i64 fr, .bool sl], .int .i64 n] w fun e w' => e = .returned (.agg #[.int .i64 0, .int .i64 0, .int .i64 0, .int .i64 0, .int .i64 0, .int .i64 0, .int .i64 0, .int .i64 0, .int .i64 0, .bool false]) ∧ Below w.heap.size w w' := by
  go_enter Try.func22, Try.ntmps22
  go_wp2_with (first
    | (go_at_call 15; refine (implCcOk_is h1 _ _).mono ?_; rintro e w2 ⟨rfl, rfl⟩)
    | (go_at_call 40; refine (iN_is h2 _).mono ?_; rintro e w2 ⟨rfl, rfl⟩))
  refine bodyPost_ret (results_one rfl _ _ _ [.int .i64 0, .int .i64 0, .int .i64 0, .int .i64 0, .int .i64 0, .int .i64 0, .int .i64 0, .int .i64 0, .int .i64 0, .bool false] rfl (cells_ten (by go_simp) (by go_simp) (by go_simp) (by go_simp) (by go_simp) (by go_simp) (by go_simp) (by go_simp) (by go_simp) (by go_simp)) Try.underlying32 rfl (by kernel_rfl)) rfl ?_
  exact ⟨rfl, by go_grown⟩
set_option maxHeartbeats 4000000 in
theorem implRenoAck_riseA {k wn th fl ac la og st fr n : Int} (sl : Bool) (w : World) (h1 : ccB k wn th fl ac la og st fr = true) (h2 : n10B n = true) (h3 : wn < th) (h4 : wn + n < th) (h6 : fl - n < 0) : Calls Try.prog 22 #[.agg #[.int .i64 k, .int .i64 wn, .int .i64 th, .int .i64 fl, .int .i64 ac, .int .i64 la, .int .i64 og, .int .i64 st, .int .i64 fr, .bool sl], .int .i64 n] w fun e w' => e = .returned (.agg #[.int .i64 k, .int .i64 (wn + n), .int .i64 th, .int .i64 0, .int .i64 ac, .int .i64 la, .int .i64 og, .int .i64 st, .int .i64 fr, .bool sl]) ∧ Below w.heap.size w w' := by
  obtain ⟨_, ⟨wn0, wn1⟩, ⟨th0, th1⟩, ⟨fl0, fl1⟩, ⟨ac0, ac1⟩, _⟩ := cc_num h1
  obtain ⟨n0, n1⟩ := n10_num h2
  have r1 : IntKind.i64.wrap (fl - n) = fl - n := by rw [IntKind.wrap_i64]; omega
  have r2 : IntKind.i64.wrap (ac + n) = ac + n := by rw [IntKind.wrap_i64]; omega
  have r3 : IntKind.i64.wrap (wn + n) = wn + n := by rw [IntKind.wrap_i64]; omega
  have h5 : ¬ wn + n = th := by omega
  go_enter Try.func22, Try.ntmps22
  go_wp2_with (first
    | (go_at_call 15; refine (implCcOk_is h1 _ _).mono ?_; rintro e w2 ⟨rfl, rfl⟩)
    | (go_at_call 40; refine (iN_is h2 _).mono ?_; rintro e w2 ⟨rfl, rfl⟩)
    | go_in)
  refine bodyPost_ret (results_one rfl _ _ _ [.int .i64 k, .int .i64 (wn + n), .int .i64 th, .int .i64 0, .int .i64 ac, .int .i64 la, .int .i64 og, .int .i64 st, .int .i64 fr, .bool sl] rfl (cells_ten (by go_simp) (by go_simp) (by go_simp) (by go_simp) (by go_simp) (by go_simp) (by go_simp) (by go_simp) (by go_simp) (by go_simp)) Try.underlying32 rfl (by kernel_rfl)) rfl ?_
  exact ⟨rfl, by go_grown⟩
set_option maxHeartbeats 4000000 in
theorem implRenoAck_riseB {k wn th fl ac la og st fr n : Int} (sl : Bool) (w : World) (h1 : ccB k wn th fl ac la og st fr = true) (h2 : n10B n = true) (h3 : wn < th) (h4 : wn + n < th) (h6 : 0 ≤ fl - n) : Calls Try.prog 22 #[.agg #[.int .i64 k, .int .i64 wn, .int .i64 th, .int .i64 fl, .int .i64 ac, .int .i64 la, .int .i64 og, .int .i64 st, .int .i64 fr, .bool sl], .int .i64 n] w fun e w' => e = .returned (.agg #[.int .i64 k, .int .i64 (wn + n), .int .i64 th, .int .i64 (fl - n), .int .i64 ac, .int .i64 la, .int .i64 og, .int .i64 st, .int .i64 fr, .bool sl]) ∧ Below w.heap.size w w' := by
  obtain ⟨_, ⟨wn0, wn1⟩, ⟨th0, th1⟩, ⟨fl0, fl1⟩, ⟨ac0, ac1⟩, _⟩ := cc_num h1
  obtain ⟨n0, n1⟩ := n10_num h2
  have r1 : IntKind.i64.wrap (fl - n) = fl - n := by rw [IntKind.wrap_i64]; omega
  have r2 : IntKind.i64.wrap (ac + n) = ac + n := by rw [IntKind.wrap_i64]; omega
  have r3 : IntKind.i64.wrap (wn + n) = wn + n := by rw [IntKind.wrap_i64]; omega
  have h5 : ¬ wn + n = th := by omega
  go_enter Try.func22, Try.ntmps22
  go_wp2_with (first
    | (go_at_call 15; refine (implCcOk_is h1 _ _).mono ?_; rintro e w2 ⟨rfl, rfl⟩)
    | (go_at_call 40; refine (iN_is h2 _).mono ?_; rintro e w2 ⟨rfl, rfl⟩)
    | go_in)
  refine bodyPost_ret (results_one rfl _ _ _ [.int .i64 k, .int .i64 (wn + n), .int .i64 th, .int .i64 (fl - n), .int .i64 ac, .int .i64 la, .int .i64 og, .int .i64 st, .int .i64 fr, .bool sl] rfl (cells_ten (by go_simp) (by go_simp) (by go_simp) (by go_simp) (by go_simp) (by go_simp) (by go_simp) (by go_simp) (by go_simp) (by go_simp)) Try.underlying32 rfl (by kernel_rfl)) rfl ?_
  exact ⟨rfl, by go_grown⟩
theorem implRenoAck_rise {k wn th fl ac la og st fr n : Int} (sl : Bool) (w : World) (h1 : ccB k wn th fl ac la og st fr = true) (h2 : n10B n = true) (h3 : wn < th) (h4 : wn + n < th) : Calls Try.prog 22 #[.agg #[.int .i64 k, .int .i64 wn, .int .i64 th, .int .i64 fl, .int .i64 ac, .int .i64 la, .int .i64 og, .int .i64 st, .int .i64 fr, .bool sl], .int .i64 n] w fun e w' => e = .returned (.agg #[.int .i64 k, .int .i64 (wn + n), .int .i64 th, .int .i64 (max 0 (fl - n)), .int .i64 ac, .int .i64 la, .int .i64 og, .int .i64 st, .int .i64 fr, .bool sl]) ∧ Below w.heap.size w w' := by
  rcases Int.lt_or_le (fl - n) 0 with h6 | h6
  · rw [show max 0 (fl - n) = 0 by omega]
    exact implRenoAck_riseA sl w h1 h2 h3 h4 h6
  · rw [show max 0 (fl - n) = fl - n by omega]
    exact implRenoAck_riseB sl w h1 h2 h3 h4 h6
set_option maxHeartbeats 4000000 in
theorem implRenoAck_topLA {k wn th fl ac la og st fr n : Int} (sl : Bool) (w : World) (h1 : ccB k wn th fl ac la og st fr = true) (h2 : n10B n = true) (h3 : wn < th) (h4 : th < wn + n) (h6 : fl - n < 0) : Calls Try.prog 22 #[.agg #[.int .i64 k, .int .i64 wn, .int .i64 th, .int .i64 fl, .int .i64 ac, .int .i64 la, .int .i64 og, .int .i64 st, .int .i64 fr, .bool sl], .int .i64 n] w fun e w' => e = .returned (.agg #[.int .i64 k, .int .i64 th, .int .i64 th, .int .i64 0, .int .i64 ac, .int .i64 la, .int .i64 og, .int .i64 st, .int .i64 fr, .bool false]) ∧ Below w.heap.size w w' := by
  obtain ⟨_, ⟨wn0, wn1⟩, ⟨th0, th1⟩, ⟨fl0, fl1⟩, ⟨ac0, ac1⟩, _⟩ := cc_num h1
  obtain ⟨n0, n1⟩ := n10_num h2
  have r1 : IntKind.i64.wrap (fl - n) = fl - n := by rw [IntKind.wrap_i64]; omega
  have r2 : IntKind.i64.wrap (ac + n) = ac + n := by rw [IntKind.wrap_i64]; omega
  have r3 : IntKind.i64.wrap (wn + n) = wn + n := by rw [IntKind.wrap_i64]; omega
  have h5 : ¬ wn + n < th := by omega
  go_enter Try.func22, Try.ntmps22
  go_wp2_with (first
    | (go_at_call 15; refine (implCcOk_is h1 _ _).mono ?_; rintro e w2 ⟨rfl, rfl⟩)
    | (go_at_call 40; refine (iN_is h2 _).mono ?_; rintro e w2 ⟨rfl, rfl⟩)
    | go_in)
  refine bodyPost_ret (results_one rfl _ _ _ [.int .i64 k, .int .i64 th, .int .i64 th, .int .i64 0, .int .i64 ac, .int .i64 la, .int .i64 og, .int .i64 st, .int .i64 fr, .bool false] rfl (cells_ten (by go_simp) (by go_simp) (by go_simp) (by go_simp) (by go_simp) (by go_simp) (by go_simp) (by go_simp) (by go_simp) (by go_simp)) Try.underlying32 rfl (by kernel_rfl)) rfl ?_
  exact ⟨rfl, by go_grown⟩
set_option maxHeartbeats 4000000 in
theorem implRenoAck_topLB {k wn th fl ac la og st fr n : Int} (sl : Bool) (w : World) (h1 : ccB k wn th fl ac la og st fr = true) (h2 : n10B n = true) (h3 : wn < th) (h4 : th < wn + n) (h6 : 0 ≤ fl - n) : Calls Try.prog 22 #[.agg #[.int .i64 k, .int .i64 wn, .int .i64 th, .int .i64 fl, .int .i64 ac, .int .i64 la, .int .i64 og, .int .i64 st, .int .i64 fr, .bool sl], .int .i64 n] w fun e w' => e = .returned (.agg #[.int .i64 k, .int .i64 th, .int .i64 th, .int .i64 (fl - n), .int .i64 ac, .int .i64 la, .int .i64 og, .int .i64 st, .int .i64 fr, .bool false]) ∧ Below w.heap.size w w' := by
  obtain ⟨_, ⟨wn0, wn1⟩, ⟨th0, th1⟩, ⟨fl0, fl1⟩, ⟨ac0, ac1⟩, _⟩ := cc_num h1
  obtain ⟨n0, n1⟩ := n10_num h2
  have r1 : IntKind.i64.wrap (fl - n) = fl - n := by rw [IntKind.wrap_i64]; omega
  have r2 : IntKind.i64.wrap (ac + n) = ac + n := by rw [IntKind.wrap_i64]; omega
  have r3 : IntKind.i64.wrap (wn + n) = wn + n := by rw [IntKind.wrap_i64]; omega
  have h5 : ¬ wn + n < th := by omega
  go_enter Try.func22, Try.ntmps22
  go_wp2_with (first
    | (go_at_call 15; refine (implCcOk_is h1 _ _).mono ?_; rintro e w2 ⟨rfl, rfl⟩)
    | (go_at_call 40; refine (iN_is h2 _).mono ?_; rintro e w2 ⟨rfl, rfl⟩)
    | go_in)
  refine bodyPost_ret (results_one rfl _ _ _ [.int .i64 k, .int .i64 th, .int .i64 th, .int .i64 (fl - n), .int .i64 ac, .int .i64 la, .int .i64 og, .int .i64 st, .int .i64 fr, .bool false] rfl (cells_ten (by go_simp) (by go_simp) (by go_simp) (by go_simp) (by go_simp) (by go_simp) (by go_simp) (by go_simp) (by go_simp) (by go_simp)) Try.underlying32 rfl (by kernel_rfl)) rfl ?_
  exact ⟨rfl, by go_grown⟩
theorem implRenoAck_topL {k wn th fl ac la og st fr n : Int} (sl : Bool) (w : World) (h1 : ccB k wn th fl ac la og st fr = true) (h2 : n10B n = true) (h3 : wn < th) (h4 : th < wn + n) : Calls Try.prog 22 #[.agg #[.int .i64 k, .int .i64 wn, .int .i64 th, .int .i64 fl, .int .i64 ac, .int .i64 la, .int .i64 og, .int .i64 st, .int .i64 fr, .bool sl], .int .i64 n] w fun e w' => e = .returned (.agg #[.int .i64 k, .int .i64 th, .int .i64 th, .int .i64 (max 0 (fl - n)), .int .i64 ac, .int .i64 la, .int .i64 og, .int .i64 st, .int .i64 fr, .bool false]) ∧ Below w.heap.size w w' := by
  rcases Int.lt_or_le (fl - n) 0 with h6 | h6
  · rw [show max 0 (fl - n) = 0 by omega]
    exact implRenoAck_topLA sl w h1 h2 h3 h4 h6
  · rw [show max 0 (fl - n) = fl - n by omega]
    exact implRenoAck_topLB sl w h1 h2 h3 h4 h6
set_option maxHeartbeats 4000000 in
theorem implRenoAck_topEA {k wn fl ac la og st fr n : Int} (sl : Bool) (w : World) (h1 : ccB k wn (wn + n) fl ac la og st fr = true) (h2 : n10B n = true) (h6 : fl - n < 0) : Calls Try.prog 22 #[.agg #[.int .i64 k, .int .i64 wn, .int .i64 (wn + n), .int .i64 fl, .int .i64 ac, .int .i64 la, .int .i64 og, .int .i64 st, .int .i64 fr, .bool sl], .int .i64 n] w fun e w' => e = .returned (.agg #[.int .i64 k, .int .i64 (wn + n), .int .i64 (wn + n), .int .i64 0, .int .i64 ac, .int .i64 la, .int .i64 og, .int .i64 st, .int .i64 fr, .bool false]) ∧ Below w.heap.size w w' := by
  obtain ⟨_, ⟨wn0, wn1⟩, ⟨th0, th1⟩, ⟨fl0, fl1⟩, ⟨ac0, ac1⟩, _⟩ := cc_num h1
  obtain ⟨n0, n1⟩ := n10_num h2
  have r1 : IntKind.i64.wrap (fl - n) = fl - n := by rw [IntKind.wrap_i64]; omega
  have r2 : IntKind.i64.wrap (ac + n) = ac + n := by rw [IntKind.wrap_i64]; omega
  have r3 : IntKind.i64.wrap (wn + n) = wn + n := by rw [IntKind.wrap_i64]; omega
  go_enter Try.func22, Try.ntmps22
  go_wp2_with (first
    | (go_at_call 15; refine (implCcOk_is h1 _ _).mono ?_; rintro e w2 ⟨rfl, rfl⟩)
    | (go_at_call 40; refine (iN_is h2 _).mono ?_; rintro e w2 ⟨rfl, rfl⟩)
    | go_in)
  refine bodyPost_ret (results_one rfl _ _ _ [.int .i64 k, .int .i64 (wn + n), .int .i64 (wn + n), .int .i64 0, .int .i64 ac, .int .i64 la, .int .i64 og, .int .i64 st, .int .i64 fr, .bool false] rfl (cells_ten (by go_simp) (by go_simp) (by go_simp) (by go_simp) (by go_simp) (by go_simp) (by go_simp) (by go_simp) (by go_simp) (by go_simp)) Try.underlying32 rfl (by kernel_rfl)) rfl ?_
  exact ⟨rfl, by go_grown⟩
set_option maxHeartbeats 4000000 in
theorem implRenoAck_topEB {k wn fl ac la og st fr n : Int} (sl : Bool) (w : World) (h1 : ccB k wn (wn + n) fl ac la og st fr = true) (h2 : n10B n = true) (h6 : 0 ≤ fl - n) : Calls Try.prog 22 #[.agg #[.int .i64 k, .int .i64 wn, .int .i64 (wn + n), .int .i64 fl, .int .i64 ac, .int .i64 la, .int .i64 og, .int .i64 st, .int .i64 fr, .bool sl], .int .i64 n] w fun e w' => e = .returned (.agg #[.int .i64 k, .int .i64 (wn + n), .int .i64 (wn + n), .int .i64 (fl - n), .int .i64 ac, .int .i64 la, .int .i64 og, .int .i64 st, .int .i64 fr, .bool false]) ∧ Below w.heap.size w w' := by
  obtain ⟨_, ⟨wn0, wn1⟩, ⟨th0, th1⟩, ⟨fl0, fl1⟩, ⟨ac0, ac1⟩, _⟩ := cc_num h1
  obtain ⟨n0, n1⟩ := n10_num h2
  have r1 : IntKind.i64.wrap (fl - n) = fl - n := by rw [IntKind.wrap_i64]; omega
  have r2 : IntKind.i64.wrap (ac + n) = ac + n := by rw [IntKind.wrap_i64]; omega
  have r3 : IntKind.i64.wrap (wn + n) = wn + n := by rw [IntKind.wrap_i64]; omega
  go_enter Try.func22, Try.ntmps22
  go_wp2_with (first
    | (go_at_call 15; refine (implCcOk_is h1 _ _).mono ?_; rintro e w2 ⟨rfl, rfl⟩)
    | (go_at_call 40; refine (iN_is h2 _).mono ?_; rintro e w2 ⟨rfl, rfl⟩)
    | go_in)
  refine bodyPost_ret (results_one rfl _ _ _ [.int .i64 k, .int .i64 (wn + n), .int .i64 (wn + n), .int .i64 (fl - n), .int .i64 ac, .int .i64 la, .int .i64 og, .int .i64 st, .int .i64 fr, .bool false] rfl (cells_ten (by go_simp) (by go_simp) (by go_simp) (by go_simp) (by go_simp) (by go_simp) (by go_simp) (by go_simp) (by go_simp) (by go_simp)) Try.underlying32 rfl (by kernel_rfl)) rfl ?_
  exact ⟨rfl, by go_grown⟩
theorem implRenoAck_topE {k wn fl ac la og st fr n : Int} (sl : Bool) (w : World) (h1 : ccB k wn (wn + n) fl ac la og st fr = true) (h2 : n10B n = true) : Calls Try.prog 22 #[.agg #[.int .i64 k, .int .i64 wn, .int .i64 (wn + n), .int .i64 fl, .int .i64 ac, .int .i64 la, .int .i64 og, .int .i64 st, .int .i64 fr, .bool sl], .int .i64 n] w fun e w' => e = .returned (.agg #[.int .i64 k, .int .i64 (wn + n), .int .i64 (wn + n), .int .i64 (max 0 (fl - n)), .int .i64 ac, .int .i64 la, .int .i64 og, .int .i64 st, .int .i64 fr, .bool false]) ∧ Below w.heap.size w w' := by
  rcases Int.lt_or_le (fl - n) 0 with h6 | h6
  · rw [show max 0 (fl - n) = 0 by omega]
    exact implRenoAck_topEA sl w h1 h2  h6
  · rw [show max 0 (fl - n) = fl - n by omega]
    exact implRenoAck_topEB sl w h1 h2  h6
theorem implRenoAck_top {k wn th fl ac la og st fr n : Int} (sl : Bool) (w : World) (h1 : ccB k wn th fl ac la og st fr = true) (h2 : n10B n = true) (h3 : wn < th) (h4 : th ≤ wn + n) : Calls Try.prog 22 #[.agg #[.int .i64 k, .int .i64 wn, .int .i64 th, .int .i64 fl, .int .i64 ac, .int .i64 la, .int .i64 og, .int .i64 st, .int .i64 fr, .bool sl], .int .i64 n] w fun e w' => e = .returned (.agg #[.int .i64 k, .int .i64 th, .int .i64 th, .int .i64 (max 0 (fl - n)), .int .i64 ac, .int .i64 la, .int .i64 og, .int .i64 st, .int .i64 fr, .bool false]) ∧ Below w.heap.size w w' := by
  rcases Int.lt_or_eq_of_le h4 with h | h
  · exact implRenoAck_topL sl w h1 h2 h3 h
  · subst h
    exact implRenoAck_topE sl w h1 h2
end Go.Proofs.Ytdgefdjgpneanao

/- What spec's buckets answer: BucketOk, Full, Fill. -/
import Derived.Test.YtohenfogiegkmabBuck
import Derived.Test.YtohenfogiegkmabSmp
import Derived.Test.YtohenfogiegkmabSpecMulDiv
import Derived.Test.YtohenfogiegkmabAdd
namespace Go.Proofs.Ytohenfogiegkmab
open Go.ChangeShapes Go.WideShapes Go.ChangeAt Go.RowKit
set_option maxRecDepth 100000
set_option linter.unusedVariables false

def winB (x : Int) : Bool := decide (0 ≤ x) && decide (x ≤ 1000000000)
def segB (x : Int) : Bool := decide (1 ≤ x) && decide (x ≤ 1500)
def lvlB (u l : Int) : Bool := decide (0 ≤ l) && decide (l ≤ 1000000000 * u)
def bokB (r u l t : Int) : Bool := ((rateB r && winB u) && lvlB u l) && timeB t
theorem win_num {x : Int} (h : winB x = true) : 0 ≤ x ∧ x ≤ 1000000000 := by simpa [winB] using h
theorem seg_num {x : Int} (h : segB x = true) : 1 ≤ x ∧ x ≤ 1500 := by simpa [segB] using h
theorem lvl_num {u l : Int} (h : lvlB u l = true) : 0 ≤ l ∧ l ≤ 1000000000 * u := by simpa [lvlB] using h
theorem tim_num {x : Int} (h : timeB x = true) : 0 ≤ x ∧ x ≤ 1000000000000000 := by simpa [timeB] using h
theorem rat_num {x : Int} (h : rateB x = true) : 0 ≤ x ∧ x ≤ 1000000000000 := by simpa [rateB] using h
theorem bok_num {r u l t : Int} (h : bokB r u l t = true) : (0 ≤ r ∧ r ≤ 1000000000000) ∧ (0 ≤ u ∧ u ≤ 1000000000) ∧ (0 ≤ l ∧ l ≤ 1000000000 * u) ∧ (0 ≤ t ∧ t ≤ 1000000000000000) := by
  unfold bokB at h
  rw [Bool.and_eq_true, Bool.and_eq_true, Bool.and_eq_true] at h
  exact ⟨rat_num h.1.1.1, win_num h.1.1.2, lvl_num h.1.2, tim_num h.2⟩
theorem window_any (x : Int) (w : World) : Calls Try.prog 84 #[.int .i64 x] w fun e w' => e = .returned (.bool (winB x)) ∧ w' = w := by
  go_enter Try.func84, Try.ntmps84
  go_wp2_with (first | (go_at_call 80; refine (in_any _ _ _ _).mono ?_; rintro e w2 ⟨rfl, rfl⟩))
  go_ret
  exact ⟨rfl, rfl⟩
theorem seg_any (x : Int) (w : World) : Calls Try.prog 68 #[.int .i64 x] w fun e w' => e = .returned (.bool (segB x)) ∧ w' = w := by
  go_enter Try.func68, Try.ntmps68
  go_wp2_with (first | (go_at_call 80; refine (in_any _ _ _ _).mono ?_; rintro e w2 ⟨rfl, rfl⟩))
  go_ret
  exact ⟨rfl, rfl⟩
theorem min_any (x y : Int) (w : World) : Calls Try.prog 75 #[.int .i64 x, .int .i64 y] w fun e w' => e = .returned (.int .i64 (min x y)) ∧ w' = w := by
  by_cases h : x < y
  · rw [Int.min_eq_left (by omega)]
    go_enter Try.func75, Try.ntmps75
    go_wp2
    go_ret
    exact ⟨rfl, rfl⟩
  · rw [Int.min_eq_right (by omega)]
    go_enter Try.func75, Try.ntmps75
    go_wp2
    go_ret
    exact ⟨rfl, rfl⟩
set_option maxHeartbeats 1000000 in
theorem specBucketOk_any (r u l t : Int) (w : World) : Calls Try.prog 67 #[.agg #[.int .i64 r, .int .i64 u, .int .i64 l, .int .i64 t]] w fun e w' => e = .returned (.bool (bokB r u l t)) ∧ Below w.heap.size w w' := by
  unfold bokB
  cases h1 : rateB r
  · go_enter Try.func67, Try.ntmps67
    go_wp2_with (first | (go_at_call 79; refine (rate_any _ _).mono ?_; rintro e w2 ⟨rfl, rfl⟩; rw [h1]))
    go_ret
    exact ⟨rfl, by go_grown⟩
  · cases h2 : winB u
    · go_enter Try.func67, Try.ntmps67
      go_wp2_with (first | (go_at_call 79; refine (rate_any _ _).mono ?_; rintro e w2 ⟨rfl, rfl⟩; rw [h1]) | (go_at_call 84; refine (window_any _ _).mono ?_; rintro e w2 ⟨rfl, rfl⟩; rw [h2]))
      go_ret
      exact ⟨rfl, by go_grown⟩
    · have n2 := win_num h2
      cases h3 : lvlB u l
      · go_enter Try.func67, Try.ntmps67
        go_wp2_with (first
          | (go_at_call 79; refine (rate_any _ _).mono ?_; rintro e w2 ⟨rfl, rfl⟩; rw [h1])
          | (go_at_call 84; refine (window_any _ _).mono ?_; rintro e w2 ⟨rfl, rfl⟩; rw [h2])
          | (go_at_call 80; refine (in_any _ _ _ _).mono ?_; rintro e w2 ⟨rfl, rfl⟩; rw [show (decide (0 ≤ l) && decide (l ≤ 1000000000 * u)) = false from h3]))
        go_ret
        exact ⟨rfl, by go_grown⟩
      · go_enter Try.func67, Try.ntmps67
        go_wp2_with (first
          | (go_at_call 79; refine (rate_any _ _).mono ?_; rintro e w2 ⟨rfl, rfl⟩; rw [h1])
          | (go_at_call 84; refine (window_any _ _).mono ?_; rintro e w2 ⟨rfl, rfl⟩; rw [h2])
          | (go_at_call 80; refine (in_any _ _ _ _).mono ?_; rintro e w2 ⟨rfl, rfl⟩; rw [show (decide (0 ≤ l) && decide (l ≤ 1000000000 * u)) = true from h3])
          | (go_at_call 58; refine (time_any _ _).mono ?_; rintro e w2 ⟨rfl, rfl⟩))
        go_ret
        exact ⟨rfl, by go_grown⟩
/-- A bucket as a value. -/
abbrev bkV (a : Int × Int × Int × Int) : Value := .agg #[.int .i64 a.1, .int .i64 a.2.1, .int .i64 a.2.2.1, .int .i64 a.2.2.2]
def fullOk (r u t : Int) : Bool := (rateB r && winB u) && timeB t
def fullOf (r u t : Int) : Int × Int × Int × Int := if fullOk r u t = true then (r, u, 1000000000 * u, t) else (0, 0, 0, 0)
set_option maxHeartbeats 1000000 in
theorem specFull_any (r u t : Int) (w : World) : Calls Try.prog 81 #[.int .i64 r, .int .i64 u, .int .i64 t] w fun e w' => e = .returned (.tuple #[bkV (fullOf r u t), .bool (fullOk r u t)]) ∧ Below w.heap.size w w' := by
  have no : fullOk r u t = false → Calls Try.prog 81 #[.int .i64 r, .int .i64 u, .int .i64 t] w fun e w' => e = .returned (.tuple #[.agg #[.int .i64 0, .int .i64 0, .int .i64 0, .int .i64 0], .bool false]) ∧ Below w.heap.size w w' := by
    intro h
    cases h1 : rateB r <;> cases h2 : winB u <;> cases h3 : timeB t
    all_goals first
      | (exfalso; unfold fullOk at h; rw [h1, h2, h3] at h; cases h; done)
      | (go_enter Try.func81, Try.ntmps81
         go_wp2_with (first | (go_at_call 79; refine (rate_any _ _).mono ?_; rintro e w2 ⟨rfl, rfl⟩; rw [h1]) | (go_at_call 84; refine (window_any _ _).mono ?_; rintro e w2 ⟨rfl, rfl⟩; rw [h2]) | (go_at_call 58; refine (time_any _ _).mono ?_; rintro e w2 ⟨rfl, rfl⟩; rw [h3]))
         refine bodyPost_ret (results_two rfl _ _ _ [.int .i64 0, .int .i64 0, .int .i64 0, .int .i64 0] rfl (cells_four (by go_simp) (by go_simp) (by go_simp) (by go_simp)) Try.underlying49 rfl (by kernel_rfl)) rfl ?_
         exact ⟨rfl, by go_grown⟩)
  cases h : fullOk r u t
  · refine (no h).mono ?_
    rintro e w' ⟨rfl, hb⟩
    refine ⟨?_, hb⟩
    unfold fullOf
    rw [h]
    rfl
  · have h' := h
    unfold fullOk at h'
    rw [Bool.and_eq_true, Bool.and_eq_true] at h'
    obtain ⟨⟨h1, h2⟩, h3⟩ := h'
    have n2 := win_num h2
    have e0 : fullOf r u t = (r, u, 1000000000 * u, t) := by unfold fullOf; rw [h]; rfl
    rw [e0]
    clear e0 h
    go_enter Try.func81, Try.ntmps81
    go_wp2_with (first | (go_at_call 79; refine (rate_any _ _).mono ?_; rintro e w2 ⟨rfl, rfl⟩; rw [h1]) | (go_at_call 84; refine (window_any _ _).mono ?_; rintro e w2 ⟨rfl, rfl⟩; rw [h2]) | (go_at_call 58; refine (time_any _ _).mono ?_; rintro e w2 ⟨rfl, rfl⟩; rw [h3]))
    refine bodyPost_ret (results_two rfl _ _ _ [.int .i64 r, .int .i64 u, .int .i64 (1000000000 * u), .int .i64 t] rfl (cells_four (by go_simp) (by go_simp) (by go_simp) (by go_simp)) Try.underlying49 rfl (by kernel_rfl)) rfl ?_
    exact ⟨rfl, by go_grown⟩
end Go.Proofs.Ytohenfogiegkmab

/- What spec's buckets answer: BucketOk, Full, Fill. -/
import Derived.Test.YtoeiheccmpjclarBuck
import Derived.Test.YtoeiheccmpjclarSmp
import Derived.Test.YtoeiheccmpjclarSpecMulDiv
import Derived.Test.YtoeiheccmpjclarAdd
namespace Go.Proofs.Ytoeiheccmpjclar
open Go.ChangeShapes Go.WideShapes Go.ChangeAt Go.RowKit
set_option maxRecDepth 100000
set_option linter.unusedVariables false

def winB (x : Int) : Bool := decide (0 ≤ x) && decide (x ≤ 1000000000)
def segB (x : Int) : Bool := decide (1 ≤ x) && decide (x ≤ 1500)
def lvlB (u l : Int) : Bool := decide (0 ≤ l) && decide (l ≤ 1000000000 * u)
def bokB (r u l t : Int) : Bool := ((rateB r && winB u) && lvlB u l) && timeB t
theorem win_num {x : Int} (h : winB x = true) : 0 ≤ x ∧ x ≤ 1000000000 := by simpa [winB] using h
theorem seg_num {x : Int} (h : segB x = true) : 1 ≤ x ∧ x ≤ 1500 := by simpa [segB] using h
theorem lvl_num {u l : Int} (h : lvlB u l = true) : 0 ≤ l ∧ l ≤ 1000000000 * u := by simpa [lvlB] using h
theorem tim_num {x : Int} (h : timeB x = true) : 0 ≤ x ∧ x ≤ 1000000000000000 := by simpa [timeB] using h
theorem rat_num {x : Int} (h : rateB x = true) : 0 ≤ x ∧ x ≤ 1000000000000 := by simpa [rateB] using h
theorem bok_num {r u l t : Int} (h : bokB r u l t = true) : (0 ≤ r ∧ r ≤ 1000000000000) ∧ (0 ≤ u ∧ u ≤ 1000000000) ∧ (0 ≤ l ∧ l ≤ 1000000000 * u) ∧ (0 ≤ t ∧ t ≤ 1000000000000000) := by
  unfold bokB at h
  rw [Bool.and_eq_true, Bool.and_eq_true, Bool.and_eq_true] at h
  exact ⟨rat_num h.1.1.1, win_num h.1.1.2, lvl_num h.1.2, tim_num h.2⟩
theorem window_any (x : Int) (w : World) : Calls Try.prog 40 #[.int .i64 x] w fun e w' => e = .returned (.bool (winB x)) ∧ w' = w := by
  go_enter Try.func40, Try.ntmps40
  go_wp2_with (first | (go_at_call 28; refine (in_any _ _ _ _).mono ?_; rintro e w2 ⟨rfl, rfl⟩))
  go_ret
  exact ⟨rfl, rfl⟩
theorem seg_any (x : Int) (w : World) : Calls Try.prog 45 #[.int .i64 x] w fun e w' => e = .returned (.bool (segB x)) ∧ w' = w := by
  go_enter Try.func45, Try.ntmps45
  go_wp2_with (first | (go_at_call 28; refine (in_any _ _ _ _).mono ?_; rintro e w2 ⟨rfl, rfl⟩))
  go_ret
  exact ⟨rfl, rfl⟩
theorem min_any (x y : Int) (w : World) : Calls Try.prog 49 #[.int .i64 x, .int .i64 y] w fun e w' => e = .returned (.int .i64 (min x y)) ∧ w' = w := by
  by_cases h : x < y
  · rw [Int.min_eq_left (by omega)]
    go_enter Try.func49, Try.ntmps49
    go_wp2
    go_ret
    exact ⟨rfl, rfl⟩
  · rw [Int.min_eq_right (by omega)]
    go_enter Try.func49, Try.ntmps49
    go_wp2
    go_ret
    exact ⟨rfl, rfl⟩
/-- A bucket as a value. -/
abbrev bkV (a : Int × Int × Int × Int) : Value := .agg #[.int .i64 a.1, .int .i64 a.2.1, .int .i64 a.2.2.1, .int .i64 a.2.2.2]
def fullOk (r u t : Int) : Bool := (rateB r && winB u) && timeB t
def fullOf (r u t : Int) : Int × Int × Int × Int := if fullOk r u t = true then (r, u, 1000000000 * u, t) else (0, 0, 0, 0)
end Go.Proofs.Ytoeiheccmpjclar

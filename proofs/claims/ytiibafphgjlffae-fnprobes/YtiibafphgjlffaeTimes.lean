/- What Bytes and TimeFor answer, in impl and in spec: bytes at a rate in a time, rounded down; the time that bytes take, rounded up, at most MaxTime; -1 out of range. -/
import Derived.Test.YtiibafphgjlffaeGrpD
namespace Go.Proofs.Ytiibafphgjlffae
open Go.ChangeShapes Go.WideShapes Go.ChangeAt Go.RowKit
set_option maxRecDepth 100000
set_option linter.unusedVariables false

def bytesOf (r t : Int) : Int := if 0 ≤ r ∧ r ≤ 1000000000000 ∧ 0 ≤ t ∧ t ≤ 1000000000000000 then r * t / 1000000000 else -1
def timeOf (r n : Int) : Int :=
  if 0 ≤ r ∧ r ≤ 1000000000000 ∧ 0 ≤ n ∧ n ≤ 1000000000 then
    (if n = 0 then 0 else if r = 0 then 1000000000000000 else min ((n * 1000000000 + r - 1) / r) 1000000000000000)
  else -1

theorem bytes_md {r t : Int} (r0 : 0 ≤ r) (r1 : r ≤ 1000000000000) (t0 : 0 ≤ t) (t1 : t ≤ 1000000000000000) : mdQ r t 1000000000 = bytesOf r t := by
  have h := Int.mul_le_mul r1 t1 t0 (by omega : (0 : Int) ≤ 1000000000000)
  have h0 := Int.mul_nonneg r0 t0
  have : mdOk r t 1000000000 = true := by unfold mdOk; exact decide_eq_true (by omega)
  unfold mdQ bytesOf
  rw [this]; rw [if_pos rfl, if_pos (⟨r0, r1, t0, t1⟩ : 0 ≤ r ∧ r ≤ 1000000000000 ∧ 0 ≤ t ∧ t ≤ 1000000000000000)]
theorem bytes_out {r t : Int} (h : r < 0 ∨ 1000000000000 < r ∨ t < 0 ∨ 1000000000000000 < t) : bytesOf r t = -1 := by
  unfold bytesOf; rw [if_neg (by omega)]
theorem bytes_in {r t : Int} (r0 : 0 ≤ r) (r1 : r ≤ 1000000000000) (t0 : 0 ≤ t) (t1 : t ≤ 1000000000000000) : bytesOf r t = r * t / 1000000000 := by
  unfold bytesOf; rw [if_pos ⟨r0, r1, t0, t1⟩]

theorem implBytes_any (r t : Int) (w : World) :
    Calls Try.prog 132 #[.int .i64 r, .int .i64 t] w fun e w' => e = .returned (.int .i64 (bytesOf r t)) ∧ Below w.heap.size w w' := by
  by_cases hin : 0 ≤ r ∧ r ≤ 1000000000000 ∧ 0 ≤ t ∧ t ≤ 1000000000000000
  · obtain ⟨r0, r1, t0, t1⟩ := hin
    have HB := bytes_md r0 r1 t0 t1
    rw [← HB]
    clear HB
    go_enter Try.func132, Try.ntmps132
    go_wp2_with (first
      | (go_at_call 138; refine (implMulDiv_any _ _ _ _ (by omega) (by omega) (by omega)).mono ?_; rintro e w' ⟨rfl, hb⟩)
      | go_in)
    go_ret
    exact ⟨rfl, hb⟩
  · have hout : r < 0 ∨ 1000000000000 < r ∨ t < 0 ∨ 1000000000000000 < t := by omega
    rw [bytes_out hout]
    clear hin
    by_cases h1 : r < 0
    · go_enter Try.func132, Try.ntmps132
      go_wp2
      go_ret
      exact ⟨rfl, Below.refl _ _⟩
    · by_cases h2 : 1000000000000 < r
      · go_enter Try.func132, Try.ntmps132
        go_wp2
        go_ret
        exact ⟨rfl, Below.refl _ _⟩
      · by_cases h3 : t < 0
        · go_enter Try.func132, Try.ntmps132
          go_wp2
          go_ret
          exact ⟨rfl, Below.refl _ _⟩
        · have h4 : 1000000000000000 < t := by omega
          have hd : decide (t ≤ 1000000000000000) = false := decide_eq_false (by omega)
          go_enter Try.func132, Try.ntmps132
          go_wp2
          go_ret
          exact ⟨rfl, Below.refl _ _⟩

theorem specBytes_any (r t : Int) (w : World) :
    Calls Try.prog 97 #[.int .i64 r, .int .i64 t] w fun e w' => e = .returned (.int .i64 (bytesOf r t)) ∧ w' = w := by
  by_cases hin : 0 ≤ r ∧ r ≤ 1000000000000 ∧ 0 ≤ t ∧ t ≤ 1000000000000000
  · obtain ⟨r0, r1, t0, t1⟩ := hin
    have HB := bytes_md r0 r1 t0 t1
    rw [← HB]
    clear HB
    go_enter Try.func97, Try.ntmps97
    go_wp2_with (first
      | (go_at_call 85; refine (specMulDiv_any _ _ _ _ (by omega) (by omega) (by omega)).mono ?_; rintro e w' ⟨rfl, rfl⟩)
      | go_in)
    go_ret
    exact ⟨rfl, rfl⟩
  · have hout : r < 0 ∨ 1000000000000 < r ∨ t < 0 ∨ 1000000000000000 < t := by omega
    rw [bytes_out hout]
    clear hin
    by_cases h1 : r < 0
    · go_enter Try.func97, Try.ntmps97
      go_wp2
      go_ret
      exact ⟨rfl, rfl⟩
    · by_cases h2 : 1000000000000 < r
      · go_enter Try.func97, Try.ntmps97
        go_wp2
        go_ret
        exact ⟨rfl, rfl⟩
      · by_cases h3 : t < 0
        · go_enter Try.func97, Try.ntmps97
          go_wp2
          go_ret
          exact ⟨rfl, rfl⟩
        · have h4 : 1000000000000000 < t := by omega
          have hd : decide (t ≤ 1000000000000000) = false := decide_eq_false (by omega)
          go_enter Try.func97, Try.ntmps97
          go_wp2
          go_ret
          exact ⟨rfl, rfl⟩

theorem quo_bd {x r : Int} (h0 : 0 ≤ x) (h1 : x ≤ 1001000000000000000) (hr : 1 ≤ r) : 0 ≤ x / r ∧ x / r ≤ 1001000000000000000 :=
  ⟨Int.ediv_nonneg h0 (by omega), Int.le_trans (Int.ediv_le_self _ h0) h1⟩
theorem time_out {r n : Int} (h : r < 0 ∨ 1000000000000 < r ∨ n < 0 ∨ 1000000000 < n) : timeOf r n = -1 := by
  unfold timeOf; rw [if_neg (by omega)]
theorem time_none {r : Int} (r0 : 0 ≤ r) (r1 : r ≤ 1000000000000) : timeOf r 0 = 0 := by
  unfold timeOf; rw [if_pos (by omega), if_pos rfl]
theorem time_never {n : Int} (n0 : 1 ≤ n) (n1 : n ≤ 1000000000) : timeOf 0 n = 1000000000000000 := by
  unfold timeOf; rw [if_pos (by omega), if_neg (by omega), if_pos rfl]
theorem time_less {r n : Int} (r0 : 1 ≤ r) (r1 : r ≤ 1000000000000) (n0 : 1 ≤ n) (n1 : n ≤ 1000000000) (h : (n * 1000000000 + r - 1) / r < 1000000000000000) : timeOf r n = (n * 1000000000 + r - 1) / r := by
  unfold timeOf; rw [if_pos (by omega), if_neg (by omega), if_neg (by omega), Int.min_eq_left (by omega)]
theorem time_more {r n : Int} (r0 : 1 ≤ r) (r1 : r ≤ 1000000000000) (n0 : 1 ≤ n) (n1 : n ≤ 1000000000) (h : ¬ (n * 1000000000 + r - 1) / r < 1000000000000000) : timeOf r n = 1000000000000000 := by
  unfold timeOf; rw [if_pos (by omega), if_neg (by omega), if_neg (by omega), Int.min_eq_right (by omega)]

end Go.Proofs.Ytiibafphgjlffae

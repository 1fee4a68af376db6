/- What spec.ToRate answers: the float cut to a whole number, where it is a rate. -/
import Derived.Test.YtnffbnnkcdgckabOrd
namespace Go.Proofs.Ytnffbnnkcdgckab
open Go.ChangeShapes Go.WideShapes Go.ChangeAt Go.RowKit
open Ieee (Datum Format double)
set_option linter.unusedVariables false

def rateOk (x : Nat) : Bool := !isNan x && decide (0 ≤ key x) && decide (key x ≤ 4786511204640096256)
def rateN (x : Nat) : Int := if rateOk x = true then ((double.read x).toInt .zero).getD 0 else 0
theorem max_key : key 4786511204640096256 = 4786511204640096256 := by decide
theorem max_is : Is 4786511204640096256 2000000000000 := by
  have h := int_is 1000000000000 (by decide)
  have e : floatOfInt .f64 1000000000000 = 4786511204640096256 := by decide
  rw [e] at h
  exact h
theorem val_le {a b : Nat} (h : key a ≤ key b) : val a ≤ val b := by
  rcases Int.lt_or_eq_of_le h with h | h
  · exact Int.le_of_lt (val_lt h)
  · exact Int.le_of_eq (val_eq h)
theorem val_nought : val 0 = 0 := by decide
/-- A rate's whole number, and where the float lies. -/
theorem rate_in {x : Nat} (h : rateOk x = true) : isNan x = false ∧ 0 ≤ key x ∧ key x ≤ 4786511204640096256 ∧ rung x < 9218868437227405312 ∧ ∃ n : Nat, rateN x = n ∧ n ≤ 1000000000000 ∧ floatToIntVal .f64 x .i64 = some (n : Int) ∧
    (n : Int) * 2 ^ (halfUp + 1) ≤ val x ∧ val x < ((n : Int) + 1) * 2 ^ (halfUp + 1) := by
  have h' := h
  simp only [rateOk, Bool.and_eq_true, decide_eq_true_eq, Bool.not_eq_true'] at h'
  obtain ⟨⟨nx, x0⟩, x1⟩ := h'
  have hf : rung x < 9218868437227405312 := by
    unfold key at x0 x1
    by_cases hn : negW x = true
    · rw [if_pos hn] at x0; omega
    · rw [if_neg hn] at x1; omega
  have v0 : 0 ≤ val x := by have := val_le (a := 0) (b := x) (by rw [key_zero]; exact x0); rw [val_nought] at this; exact this
  have v1 : val x ≤ 2000000000000 * 2 ^ halfUp := by have := val_le (a := x) (b := 4786511204640096256) (by rw [max_key]; exact x1); rw [max_is.2.2] at this; exact this
  obtain ⟨n, hn, f1, f2⟩ := trunc_val hf v0
  have p2 : (0 : Int) < 2 ^ (halfUp + 1) := Int.pow_pos (by decide)
  have hle : n ≤ 1000000000000 := by
    by_cases hc : n ≤ 1000000000000
    · exact hc
    · have e : (2000000000000 : Int) * 2 ^ halfUp = 1000000000000 * 2 ^ (halfUp + 1) := by rw [Int.pow_succ]; generalize (2 : Int) ^ halfUp = P; omega
      rw [e] at v1
      have : (1000000000001 : Int) * 2 ^ (halfUp + 1) ≤ n * 2 ^ (halfUp + 1) := Int.mul_le_mul_of_nonneg_right (by omega) (Int.le_of_lt p2)
      generalize (2 : Int) ^ (halfUp + 1) = P at *
      omega
  refine ⟨nx, x0, x1, hf, n, ?_, hle, ?_, f1, f2⟩
  · unfold rateN; rw [if_pos h, hn]; rfl
  · unfold floatToIntVal
    have e : FloatKind.decode .f64 x = double.read x := rfl
    rw [e, hn]
    have hb : IntKind.min .i64 ≤ (n : Int) ∧ (n : Int) ≤ IntKind.max .i64 := by
      have e1 : IntKind.min .i64 = -9223372036854775808 := by decide
      have e2 : IntKind.max .i64 = 9223372036854775807 := by decide
      rw [e1, e2]; omega
    show (if IntKind.min .i64 ≤ (n : Int) ∧ (n : Int) ≤ IntKind.max .i64 then some (n : Int) else none) = _
    rw [if_pos hb]
theorem rate_out {x : Nat} (h : rateOk x = false) : rateN x = 0 ∧ (isNan x = true ∨ (isNan x = false ∧ key x < 0) ∨ (isNan x = false ∧ 4786511204640096256 < key x)) := by
  refine ⟨by unfold rateN; rw [h]; rfl, ?_⟩
  cases hn : isNan x
  · simp only [rateOk, hn, Bool.not_false, Bool.true_and, Bool.and_eq_false_iff, decide_eq_false_iff_not] at h
    rcases h with h | h
    · exact .inr (.inl ⟨rfl, by omega⟩)
    · exact .inr (.inr ⟨rfl, by omega⟩)
  · exact .inl rfl
theorem run_cut {x : Nat} {n : Int} (h : floatToIntVal .f64 x .i64 = some n) (w : World) : (convert 24 2 (.float .f64 x)).run Try.prog w = .ok (.int .i64 n) w :=
  run_convert_float_int w 24 2 .f64 .i64 x n (by kernel_rfl) (by kernel_rfl) h

theorem specToRate_any (x : Nat) (w : World) :
    Calls Try.prog 13 #[.float .f64 x] w fun e w' => e = .returned (.tuple #[.int .i64 (rateN x), .bool (rateOk x)]) ∧ w' = w := by
  cases h : rateOk x
  · obtain ⟨h1, h2⟩ := rate_out h
    rw [h1]
    clear h h1
    rcases h2 with h | ⟨nx, h⟩ | ⟨nx, h⟩
    · have o1 := order_none (a := x) (b := 0) (.inl h)
      clear h
      go_enter Try.func13, Try.ntmps13
      go_wp2
      go_ret2
      exact ⟨rfl, rfl⟩
    · have o1 := order_lt nx nan_zero (by rw [key_zero]; exact h)
      clear h
      go_enter Try.func13, Try.ntmps13
      go_wp2
      go_ret2
      exact ⟨rfl, rfl⟩
    · have o1 := order_gt nx nan_zero (by rw [key_zero]; omega)
      have o2 := order_gt (b := 4786511204640096256) nx (by decide) (by rw [max_key]; exact h)
      clear h
      go_enter Try.func13, Try.ntmps13
      go_wp2
      go_ret2
      exact ⟨rfl, rfl⟩
  · obtain ⟨nx, x0, x1, _, n, hn, hle, hv, _, _⟩ := rate_in h
    rw [hn]
    have q := run_cut hv
    have o1 : FloatKind.f64.format.order x 0 = some .gt ∨ FloatKind.f64.format.order x 0 = some .eq := by
      rcases Int.lt_trichotomy (key x) 0 with h | h | h
      · omega
      · exact .inr (order_eq nx nan_zero (by rw [key_zero]; exact h))
      · exact .inl (order_gt nx nan_zero (by rw [key_zero]; exact h))
    have o2 : FloatKind.f64.format.order x 4786511204640096256 = some .lt ∨ FloatKind.f64.format.order x 4786511204640096256 = some .eq := by
      rcases Int.lt_trichotomy (key x) 4786511204640096256 with h | h | h
      · exact .inl (order_lt nx (by decide) (by rw [max_key]; exact h))
      · exact .inr (order_eq nx (by decide) (by rw [max_key]; exact h))
      · omega
    clear hn hv x0 x1 h
    rcases o1 with o1 | o1 <;> rcases o2 with o2 | o2
    all_goals
      go_enter Try.func13, Try.ntmps13
      go_wp2
      go_ret2
      exact ⟨rfl, rfl⟩
end Go.Proofs.Ytnffbnnkcdgckab

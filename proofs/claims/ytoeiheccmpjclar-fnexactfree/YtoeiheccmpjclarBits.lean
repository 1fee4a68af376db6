/- Plain facts on bits and on a division bit by bit: no program in sight. -/
import Derived.WalkKit
import Derived.ProofKit
import Derived.OpenShut
namespace Go.Proofs.Ytoeiheccmpjclar
open Go.RowKit

theorem ret_int {k : IntKind} {a b : Int} (h : a = b) : Ending.returned (.int k a) = .returned (.int k b) := by rw [h]

theorem wraps_u64 (n : Int) (h₀ : 0 ≤ n) (h₁ : n < 2 ^ 64) : IntKind.u64.wrap n = n := by rw [IntKind.wrap_u64]; omega
theorem wraps_u32 (n : Int) (h₀ : 0 ≤ n) (h₁ : n < 2 ^ 32) : IntKind.u32.wrap n = n := by rw [IntKind.wrap_u32]; omega
theorem wraps_i64 (n : Int) (h₀ : 0 ≤ n) (h₁ : n < 2 ^ 63) : IntKind.i64.wrap n = n := by rw [IntKind.wrap_i64]; omega
theorem and1_u32 (x : Int) (h₀ : 0 ≤ x) (h₁ : x < 4294967296) : bits .and .u32 x 1 = x % 2 := by
  have := bits_mask .u32 32 (by decide) wraps_u32 1 (by decide) x h₀ (by simpa using h₁)
  simpa using this
theorem or1_u64 (x b : Int) (h₀ : 0 ≤ x) (h₁ : x < 18446744073709551616) (he : x % 2 = 0) (b0 : 0 ≤ b) (b1 : b ≤ 1) : bits .or .u64 x b = x + b := by
  exact bits_join .u64 64 (by decide) wraps_u64 1 x b h₀ (by simpa using he) (by simpa using h₁) b0 (by omega) (by omega)

/-- The bit of a word is the bit of the number. -/
theorem bit_of_word (N k j : Nat) (hj : j < 32) : (N / 2 ^ (32 * k) % 4294967296) / 2 ^ j % 2 = N / 2 ^ (32 * k + j) % 2 := by
  rw [Nat.pow_add, ← Nat.div_div_eq_div_mul]
  generalize N / 2 ^ (32 * k) = X
  have h := Nat.testBit_mod_two_pow X 32 j
  rw [show (2 : Nat) ^ 32 = 4294967296 from rfl] at h
  simp only [Nat.testBit_eq_decide_div_mod_eq, hj, decide_true, Bool.true_and, decide_eq_decide] at h
  omega

/-- Behind the bits of N from t on: quotient and rest. -/
def DivSt (N c t q r : Nat) : Prop := q * c + r = N / 2 ^ t ∧ r < c ∧ q ≤ 9223372036854775807

theorem div_two_pow (N t : Nat) : N / 2 ^ t = 2 * (N / 2 ^ (t + 1)) + N / 2 ^ t % 2 := by
  rw [Nat.pow_succ, ← Nat.div_div_eq_div_mul]; omega

theorem divSt_yes {N c t q r : Nat} (h : DivSt N c (t + 1) q r) (hq : q ≤ 4611686018427387903) (hc : c ≤ 2 * r + N / 2 ^ t % 2) : DivSt N c t (2 * q + 1) (2 * r + N / 2 ^ t % 2 - c) := by
  obtain ⟨h1, h2, h3⟩ := h
  have e := div_two_pow N t
  have : (2 * q + 1) * c = 2 * (q * c) + c := by grind
  refine ⟨?_, ?_, ?_⟩ <;> omega
theorem divSt_no {N c t q r : Nat} (h : DivSt N c (t + 1) q r) (hq : q ≤ 4611686018427387903) (hc : 2 * r + N / 2 ^ t % 2 < c) : DivSt N c t (2 * q) (2 * r + N / 2 ^ t % 2) := by
  obtain ⟨h1, h2, h3⟩ := h
  have e := div_two_pow N t
  have : (2 * q) * c = 2 * (q * c) := by grind
  refine ⟨?_, ?_, ?_⟩ <;> omega
theorem divSt_end {N c q r : Nat} (h : DivSt N c 0 q r) : q = N / c ∧ N / c ≤ 9223372036854775807 := by
  obtain ⟨h1, h2, h3⟩ := h
  have : N / c = q := by
    rw [Nat.pow_zero, Nat.div_one] at h1
    exact Nat.div_eq_of_lt_le (by omega) (by have : (q + 1) * c = q * c + c := by grind
                                             omega)
  omega
theorem divSt_over {N c t q r : Nat} (h : DivSt N c (t + 1) q r) (hq : 4611686018427387903 < q) : 9223372036854775807 < N / c := by
  obtain ⟨h1, h2, h3⟩ := h
  have hc : 0 < c := by omega
  have e : 2 ^ (t + 1) * (N / 2 ^ (t + 1)) ≤ N := Nat.mul_div_le _ _
  have p : 2 ≤ 2 ^ (t + 1) := by rw [Nat.pow_succ]; have := Nat.two_pow_pos t; omega
  have : 9223372036854775808 * c ≤ N := by
    have h4 : 4611686018427387904 * c ≤ q * c := Nat.mul_le_mul_right c (by omega)
    have h5 : 2 * (N / 2 ^ (t + 1)) ≤ 2 ^ (t + 1) * (N / 2 ^ (t + 1)) := Nat.mul_le_mul_right _ p
    omega
  exact (Nat.le_div_iff_mul_le hc).2 this
end Go.Proofs.Ytoeiheccmpjclar

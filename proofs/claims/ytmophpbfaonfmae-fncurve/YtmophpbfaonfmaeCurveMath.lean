/- Chapter 11's curve never falls, is back at the last window after its time, and begins no lower than its origin. No program. -/
import Derived.Test.YtmophpbfaonfmaeCubMath
namespace Go.Proofs.Ytmophpbfaonfmae

theorem mul_le_sq {a b : Int} (ha : 0 ≤ a) (h : a ≤ b) : a * a ≤ b * b := Int.mul_le_mul h h ha (Int.le_trans ha h)
theorem cube_le {a b : Int} (h : a ≤ b) : a * a * a ≤ b * b * b := by
  have pos : ∀ {x y : Int}, 0 ≤ x → x ≤ y → x * x * x ≤ y * y * y := fun {x y} hx hy => Int.mul_le_mul (mul_le_sq hx hy) hy hx (Int.mul_nonneg (Int.le_trans hx hy) (Int.le_trans hx hy))
  rcases Int.lt_or_le a 0 with h0 | h0
  · rcases Int.lt_or_le b 0 with h1 | h1
    · have := pos (x := -b) (y := -a) (by omega) (by omega)
      rw [Int.neg_mul_neg, Int.neg_mul_neg, Int.mul_neg, Int.mul_neg] at this
      omega
    · have h2 : 0 ≤ b * b * b := Int.mul_nonneg (Int.mul_nonneg h1 h1) h1
      have h3 := pos (x := 0) (y := -a) (by omega) (by omega)
      rw [Int.neg_mul_neg, Int.mul_neg] at h3
      omega
  · exact pos h0 h
theorem cubD_mono {a b : Int} (h : a ≤ b) : cubD a ≤ cubD b := by
  unfold cubD
  exact Int.ediv_le_ediv (by decide) (Int.mul_le_mul_of_nonneg_right (cube_le h) (by decide))
theorem cubAt_mono {la og a b : Int} (h : a ≤ b) : cubAt la og a ≤ cubAt la og b := by
  have := cubD_mono (show a - cubT la og ≤ b - cubT la og by omega)
  unfold cubAt
  omega
theorem cubAt_time {la og : Int} (h0 : 0 ≤ la) (h1 : la ≤ 1000000000) : cubAt la og (cubT la og) = la := by
  unfold cubAt
  rw [Int.sub_self]
  have : cubD 0 = 0 := by decide
  omega
theorem cubT_cube {la og : Int} (h : og < la) (h1 : la ≤ 1000000000) (h0 : 0 ≤ og) : cubT la og * cubT la og * cubT la og ≤ (la - og) * 2500000000 / 1500 := by
  have e : cubT la og = rootZ ((la - og) * 2500000000 / 1500) := if_neg (by omega)
  rw [e]
  rcases rootZ_is (n := (la - og) * 2500000000 / 1500) (by omega) with ⟨hh, _⟩ | ⟨_, _, _, r2, _⟩
  · omega
  · exact r2
theorem cubAt_start {la og : Int} (h0 : 0 ≤ og) (h1 : la ≤ 1000000000) (h : og < la) : og ≤ cubAt la og 0 ∧ cubAt la og 0 ≤ la := by
  have hc := cubT_cube h h1 h0
  have hk := (cubT_bd h0 h1).1
  have e : cubD (0 - cubT la og) = -(cubT la og * cubT la og * cubT la og) * 6000 / 10000000000 := by
    unfold cubD
    rw [Int.zero_sub, Int.neg_mul_neg, Int.mul_neg]
  have hn : 0 ≤ cubT la og * cubT la og * cubT la og := Int.mul_nonneg (Int.mul_nonneg hk hk) hk
  unfold cubAt
  rw [e]
  generalize cubT la og * cubT la og * cubT la og = N at hc hn
  have hN : N * 6000 ≤ (la - og) * 10000000000 := by omega
  have hlo : -(la - og) ≤ -N * 6000 / 10000000000 := by omega
  have hhi : -N * 6000 / 10000000000 ≤ 0 := by omega
  omega
theorem cubAt_flat {la og : Int} (h0 : 0 ≤ la) (h1 : la ≤ 1000000000) (h : la ≤ og) : cubAt la og 0 = la := by
  have e : cubT la og = 0 := if_pos h
  have := cubAt_time (og := og) h0 h1
  rwa [e] at this
end Go.Proofs.Ytmophpbfaonfmae

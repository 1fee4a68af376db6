/- Chapter 11's curve: cube roots as a function, cubes and their bounds. No program. -/
import Derived.Test.YtmophpbfaonfmaeMath
import Derived.Test.YtmophpbfaonfmaeRoot
namespace Go.Proofs.Ytmophpbfaonfmae

def rootTo : Nat → Nat → Nat
  | 0, _ => 0
  | m + 1, n => if (m + 1) * (m + 1) * (m + 1) ≤ n then m + 1 else rootTo m n
theorem rootTo_le : ∀ (m n : Nat), rootTo m n ≤ m ∧ rootTo m n * rootTo m n * rootTo m n ≤ n ∧ ∀ r, r ≤ m → r * r * r ≤ n → r ≤ rootTo m n := by
  intro m n
  induction m with
  | zero => exact ⟨Nat.le_refl _, Nat.zero_le _, fun r hr _ => hr⟩
  | succ m ih =>
    unfold rootTo
    split
    · rename_i h
      exact ⟨Nat.le_refl _, h, fun r hr _ => hr⟩
    · rename_i h
      refine ⟨Nat.le_succ_of_le ih.1, ih.2.1, fun r hr hc => ?_⟩
      rcases Nat.lt_or_ge r (m + 1) with hl | hl
      · exact ih.2.2 r (by omega) hc
      · obtain rfl : r = m + 1 := by omega
        exact absurd hc h
/-- The cube root, rounded down; -1 below 0. -/
def rootZ (n : Int) : Int := if n < 0 then -1 else ((rootTo 2097151 n.toNat : Nat) : Int)
theorem root_only {n r s : Int} (h : IsRoot n r) (k : IsRoot n s) : r = s := by
  rcases h with ⟨h0, rfl⟩ | ⟨h0, h1, h2, h3, h4⟩
  · rcases k with ⟨k0, rfl⟩ | ⟨k0, k1, k2, k3, k4⟩
    · rfl
    · omega
  · rcases k with ⟨k0, rfl⟩ | ⟨k0, k1, k2, k3, k4⟩
    · omega
    · obtain ⟨R, rfl⟩ := Int.eq_ofNat_of_zero_le h1
      obtain ⟨S, rfl⟩ := Int.eq_ofNat_of_zero_le k1
      obtain ⟨N, rfl⟩ := Int.eq_ofNat_of_zero_le h0
      have a1 : R * R * R ≤ N := by exact_mod_cast h3
      have a2 : N < (R + 1) * (R + 1) * (R + 1) := by exact_mod_cast h4
      have b1 : S * S * S ≤ N := by exact_mod_cast k3
      have b2 : N < (S + 1) * (S + 1) * (S + 1) := by exact_mod_cast k4
      rcases Nat.lt_trichotomy R S with h | h | h
      · have := cube_mono (show R + 1 ≤ S by omega); omega
      · rw [h]
      · have := cube_mono (show S + 1 ≤ R by omega); omega
theorem rootZ_is {n : Int} (h : n ≤ 9223372036854775807) : IsRoot n (rootZ n) := by
  obtain ⟨r, hr⟩ := root_exists n h
  by_cases h0 : n < 0
  · rw [show rootZ n = -1 from if_pos h0]
    exact .inl ⟨h0, rfl⟩
  · have e : rootZ n = ((rootTo 2097151 n.toNat : Nat) : Int) := if_neg h0
    rcases hr with ⟨hh, _⟩ | ⟨_, r0, r1, r2, r3⟩
    · omega
    · obtain ⟨R, rfl⟩ := Int.eq_ofNat_of_zero_le r0
      obtain ⟨N, rfl⟩ := Int.eq_ofNat_of_zero_le (show 0 ≤ n by omega)
      rw [Int.toNat_natCast] at e
      obtain ⟨t1, t2, t3⟩ := rootTo_le 2097151 N
      have a1 : R * R * R ≤ N := by exact_mod_cast r2
      have a2 : N < (R + 1) * (R + 1) * (R + 1) := by exact_mod_cast r3
      have hR := t3 R (by omega) a1
      obtain ⟨T, hT⟩ : ∃ T, rootTo 2097151 N = T := ⟨_, rfl⟩
      rw [hT] at e t1 t2 hR
      have hTR : T = R := by
        rcases Nat.lt_or_ge R T with h | h
        · have := cube_mono (show R + 1 ≤ T by omega); omega
        · omega
      subst hTR
      rw [e]
      exact .inr ⟨by omega, r0, r1, r2, r3⟩
theorem cub_bd {n : Int} (h0 : 0 ≤ n) (h1 : n ≤ 1000000) : (0 ≤ n * n ∧ n * n ≤ 1000000000000) ∧ 0 ≤ n * n * n ∧ n * n * n ≤ 1000000000000000000 := by
  obtain ⟨N, rfl⟩ := Int.eq_ofNat_of_zero_le h0
  have hN : N ≤ 1000000 := by omega
  have a : N * N ≤ 1000000 * 1000000 := Nat.mul_le_mul hN hN
  have b : N * N * N ≤ 1000000 * 1000000 * 1000000 := Nat.mul_le_mul a hN
  have ha : (0 : Int) ≤ ((N * N : Nat) : Int) ∧ ((N * N : Nat) : Int) ≤ 1000000000000 := by omega
  have hb : (0 : Int) ≤ ((N * N * N : Nat) : Int) ∧ ((N * N * N : Nat) : Int) ≤ 1000000000000000000 := by omega
  push_cast at ha hb
  exact ⟨ha, hb⟩
/-- How long the curve takes. -/
def cubT (la og : Int) : Int := if la ≤ og then 0 else rootZ ((la - og) * 2500000000 / 1500)
/-- How far the curve is from the last window, d milliseconds behind its time. -/
def cubD (d : Int) : Int := d * d * d * 6000 / 10000000000
def cubAt (la og ms : Int) : Int := min 1000000000 (max 0 (la + cubD (ms - cubT la og)))
theorem cubT_bd {la og : Int} (h0 : 0 ≤ og) (h1 : la ≤ 1000000000) : 0 ≤ cubT la og ∧ cubT la og ≤ 1000000 := by
  unfold cubT
  split
  · omega
  · rename_i h
    have hn : (la - og) * 2500000000 / 1500 ≤ 1666666666666667 := by omega
    have hp : 0 ≤ (la - og) * 2500000000 / 1500 := by omega
    obtain ⟨n, hn'⟩ : ∃ n, (la - og) * 2500000000 / 1500 = n := ⟨_, rfl⟩
    rw [hn'] at hn hp ⊢
    rcases rootZ_is (n := n) (by omega) with ⟨hh, _⟩ | ⟨_, r0, r1, r2, _⟩
    · omega
    · refine ⟨r0, ?_⟩
      obtain ⟨R, hR⟩ := Int.eq_ofNat_of_zero_le r0
      rw [hR] at r2 ⊢
      rcases Nat.lt_or_ge 1000000 R with h | h
      · have := cube_mono (show 1000001 ≤ R by omega)
        have h2 : ((R * R * R : Nat) : Int) ≤ n := by push_cast; exact r2
        omega
      · omega
/-- Below: a rest takes one more. -/
theorem down_is {c N q r p y : Int} (hc : 0 < c) (hN : N = c * q + r) (hr : r * 4 * 1500 = c * p + y) (y0 : 0 ≤ y) (y1 : y < c) : -N * 6000 / c = if y = 0 then -(N * 6000 / c) else -(N * 6000 / c + 1) := by
  have e : N * 6000 = y + c * (6000 * q + p) := by
    rw [hN, Int.add_mul, Int.mul_add, Int.mul_assoc c q, Int.mul_comm q 6000]
    omega
  have e1 : N * 6000 / c = 6000 * q + p := by rw [e, Int.add_mul_ediv_left _ _ (by omega), Int.ediv_eq_zero_of_lt y0 y1]; omega
  rw [e1]
  split
  · rename_i hy
    have : -N * 6000 = c * -(6000 * q + p) := by rw [Int.neg_mul, e, hy, Int.mul_neg]; omega
    rw [this, Int.mul_ediv_cancel_left _ (by omega)]
  · have : -N * 6000 = (c - y) + c * -(6000 * q + p + 1) := by
      rw [Int.neg_mul, e, Int.mul_neg, Int.mul_add c _ 1]
      omega
    rw [this, Int.add_mul_ediv_left _ _ (by omega), Int.ediv_eq_zero_of_lt (by omega) (by omega)]
    omega
theorem cubD_down {n y : Int} (hy : y = n * n * n % 10000000000 * 4 * 1500 % 10000000000) : cubD (-n) = if y = 0 then -(n * n * n * 6000 / 10000000000) else -(n * n * n * 6000 / 10000000000 + 1) := by
  unfold cubD
  rw [show -n * -n * -n = -(n * n * n) by rw [Int.neg_mul_neg, Int.mul_neg]]
  generalize n * n * n = N at hy ⊢
  exact down_is (q := N / 10000000000) (r := N % 10000000000) (p := N % 10000000000 * 4 * 1500 / 10000000000) (by decide) (Int.mul_ediv_add_emod _ _).symm (by rw [hy]; exact (Int.mul_ediv_add_emod _ _).symm) (by rw [hy]; exact Int.emod_nonneg _ (by decide)) (by rw [hy]; exact Int.emod_lt_of_pos _ (by decide))
end Go.Proofs.Ytmophpbfaonfmae

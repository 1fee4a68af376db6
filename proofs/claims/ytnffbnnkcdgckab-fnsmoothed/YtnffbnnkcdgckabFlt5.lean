/- Plain facts on floats of 64 bits: products of half numbers, whole numbers as floats, floats cut to whole numbers. No program in sight. -/
import Derived.Test.YtnffbnnkcdgckabFlt4
namespace Go.Proofs.Ytnffbnnkcdgckab
open Go.RowKit
open Ieee (Datum Format double)

theorem is_sign {a : Nat} {k : Int} (h : Is a k) : mag (rung a) = k.natAbs * 2 ^ halfUp ∧ (k ≠ 0 → negW a = decide (k < 0)) := by
  obtain ⟨_, _, h3⟩ := h
  rw [val_signed] at h3
  have p2 : (0 : Int) < 2 ^ halfUp := Int.pow_pos (by decide)
  constructor
  · rw [natAbs_mul_pow, ← h3]
    split <;> simp
  · intro h0
    by_cases hn : negW a = true
    · rw [if_pos hn] at h3
      rw [hn]
      symm
      refine decide_eq_true ?_
      by_cases hk : k < 0
      · exact hk
      · have := Int.mul_pos (show 0 < k by omega) p2; omega
    · rw [if_neg hn] at h3
      rw [show negW a = false by simpa using hn]
      symm
      refine decide_eq_false ?_
      intro hk
      have := Int.mul_neg_of_neg_of_pos hk p2; omega
theorem is_nought (s : Bool) (i : Int) : Is (double.nearest s 0 i) 0 := by
  have e : double.nearest s 0 i = double.word s 0 := by unfold Format.nearest; rw [if_pos rfl]
  have hw := rung_word s 0 (by decide)
  refine ⟨nearest_lt64 _ _ _, by rw [e, hw.1]; decide, ?_⟩
  rw [e, val_signed, hw.1, mag_zero]
  split <;> simp
theorem place_lo {m : Nat} {i : Int} {K : Nat} (hK : 0 < K) (hm : m < 9007199254740992) (hi : -1074 ≤ i) (h : m * 2 ^ (i + 1074).toNat = K * 2 ^ halfUp) : -54 ≤ i := by
  have hu := halfUp_eq
  by_cases hc : -54 ≤ i
  · exact hc
  · have h1 : m * 2 ^ (i + 1074).toNat < 2 ^ 53 * 2 ^ (i + 1074).toNat := Nat.mul_lt_mul_of_pos_right (by omega) (Nat.two_pow_pos _)
    rw [← Nat.pow_add, h] at h1
    have h2 : 2 ^ (53 + (i + 1074).toNat) ≤ 2 ^ halfUp := Nat.pow_le_pow_right (by decide) (by omega)
    have h3 : 1 * 2 ^ halfUp ≤ K * 2 ^ halfUp := Nat.mul_le_mul_right _ hK
    omega
theorem swap4 (x y P Q : Nat) : (x * P) * (y * Q) = (x * y) * (P * Q) := by grind
theorem twice (x P Q : Nat) : 2 * x * (P * Q) = x * P * (Q * 2) := by grind
theorem mul_is {a b : Nat} {k l p : Int} (ha : Is a k) (hb : Is b l) (hp : k * l = 2 * p) (hs : p.natAbs < 9007199254740992) : ∃ r, double.mul a b = some r ∧ Is r p := by
  obtain ⟨m, i, e, hi, hm, hmm, _⟩ := read_val ha.2.1
  obtain ⟨n, j, e', hj, hn, hnn, _⟩ := read_val hb.2.1
  have hu := halfUp_eq
  obtain ⟨ga, sa⟩ := is_sign ha
  obtain ⟨gb, sb⟩ := is_sign hb
  rw [ga] at hmm
  rw [gb] at hnn
  unfold Format.mul
  rw [e, e']
  refine ⟨_, rfl, ?_⟩
  show Is (double.nearest _ _ _) _
  by_cases h0 : p = 0
  · subst h0
    have hz : m * n = 0 := by
      rcases Int.mul_eq_zero.1 (show k * l = 0 by omega) with h | h
      · rw [h, Int.natAbs_zero, Nat.zero_mul] at hmm
        rcases Nat.mul_eq_zero.1 hmm with h' | h'
        · rw [h', Nat.zero_mul]
        · have := Nat.two_pow_pos (i + 1074).toNat; omega
      · rw [h, Int.natAbs_zero, Nat.zero_mul] at hnn
        rcases Nat.mul_eq_zero.1 hnn with h' | h'
        · rw [h', Nat.mul_zero]
        · have := Nat.two_pow_pos (j + 1074).toNat; omega
    rw [hz]
    exact is_nought _ _
  · have hk : k ≠ 0 := by intro h; rw [h, Int.zero_mul] at hp; omega
    have hl : l ≠ 0 := by intro h; rw [h, Int.mul_zero] at hp; omega
    have li := place_lo (by omega) hm hi hmm
    have lj := place_lo (by omega) hn hj hnn
    refine is_nearest _ _ _ _ hs (by omega) ?_ ?_
    · intro _
      rw [sa hk, sb hl]
      by_cases c1 : k < 0 <;> by_cases c2 : l < 0
      · have := Int.mul_pos_of_neg_of_neg c1 c2
        rw [decide_eq_true c1, decide_eq_true c2, decide_eq_false (by omega)]; rfl
      · have := Int.mul_neg_of_neg_of_pos c1 (show 0 < l by omega)
        rw [decide_eq_true c1, decide_eq_false c2, decide_eq_true (by omega)]; rfl
      · have := Int.mul_neg_of_pos_of_neg (show 0 < k by omega) c2
        rw [decide_eq_false c1, decide_eq_true c2, decide_eq_true (by omega)]; rfl
      · have := Int.mul_pos (show 0 < k by omega) (show 0 < l by omega)
        rw [decide_eq_false c1, decide_eq_false c2, decide_eq_false (by omega)]; rfl
    · have hpa : k.natAbs * l.natAbs = 2 * p.natAbs := by rw [← Int.natAbs_mul, hp, Int.natAbs_mul]; rfl
      have h1 : (m * 2 ^ (i + 1074).toNat) * (n * 2 ^ (j + 1074).toNat) = (k.natAbs * 2 ^ halfUp) * (l.natAbs * 2 ^ halfUp) := by rw [hmm, hnn]
      have h2 : (m * n * 2 ^ (i + j + 1074).toNat) * 2 ^ (halfUp + 1) = (p.natAbs * 2 ^ halfUp) * 2 ^ (halfUp + 1) := by
        have a1 : (m * n * 2 ^ (i + j + 1074).toNat) * 2 ^ (halfUp + 1) = (m * 2 ^ (i + 1074).toNat) * (n * 2 ^ (j + 1074).toNat) := by
          rw [Nat.mul_assoc (m * n), ← Nat.pow_add, show (i + j + 1074).toNat + (halfUp + 1) = (i + 1074).toNat + (j + 1074).toNat by omega, Nat.pow_add, swap4]
        rw [a1, h1, swap4, hpa, Nat.pow_succ, twice]
      exact Nat.eq_of_mul_eq_mul_right (Nat.two_pow_pos _) h2

theorem is_order {a b : Nat} {k l : Int} (ha : Is a k) (hb : Is b l) : double.order a b = some (compare k l) := by
  rw [order_fin ha.2.1 hb.2.1, ha.2.2, hb.2.2, compare_scale]
theorem is_num {a : Nat} {k : Int} (h : Is a k) : isNan a = false := decide_eq_false (by have := h.2.1; omega)
theorem int_is (n : Int) (h : n.natAbs < 4503599627370496) : Is (floatOfInt .f64 n) (2 * n) := by
  have hu := halfUp_eq
  show Is (double.nearest (decide (n < 0)) n.natAbs 0) (2 * n)
  refine is_nearest _ _ _ _ (by omega) (by omega) ?_ ?_
  · intro h0
    by_cases hn : n < 0
    · rw [decide_eq_true hn, decide_eq_true (by omega)]
    · rw [decide_eq_false hn, decide_eq_false (by omega)]
  · rw [show ((0 : Int) + 1074).toNat = halfUp + 1 by omega, Nat.pow_succ, Int.natAbs_mul, Nat.mul_comm (2 ^ halfUp) 2, ← Nat.mul_assoc, Nat.mul_comm n.natAbs 2]
    rfl

theorem cut_zero (s : Bool) (n d : Nat) : Ieee.Toward.cut .zero s n d = n / 2 ^ min d (n.log2 + 2) := by
  unfold Ieee.Toward.cut
  simp [Nat.shiftLeft_eq]

/-- A number m * 2 ^ i cut towards nought. -/
theorem cut_floor (s : Bool) (m : Nat) (i : Int) (hi : -1074 ≤ i) :
    Ieee.Toward.cut .zero s (m <<< i.toNat) (-i).toNat * 2 ^ (halfUp + 1) ≤ m * 2 ^ (i + 1074).toNat ∧
    m * 2 ^ (i + 1074).toNat < (Ieee.Toward.cut .zero s (m <<< i.toNat) (-i).toNat + 1) * 2 ^ (halfUp + 1) := by
  have hu := halfUp_eq
  rw [cut_zero]
  by_cases h : 0 ≤ i
  · rw [show (-i).toNat = 0 by omega, Nat.zero_min, Nat.pow_zero, Nat.div_one, Nat.shiftLeft_eq, Nat.mul_assoc, ← Nat.pow_add, show i.toNat + (halfUp + 1) = (i + 1074).toNat by omega]
    refine ⟨Nat.le_refl _, ?_⟩
    rw [Nat.add_mul, Nat.mul_assoc, ← Nat.pow_add, show i.toNat + (halfUp + 1) = (i + 1074).toNat by omega]
    have := Nat.two_pow_pos (halfUp + 1)
    omega
  · obtain ⟨D, hD⟩ : ∃ D : Nat, (-i).toNat = D := ⟨_, rfl⟩
    obtain ⟨c, hc⟩ : ∃ c : Nat, (i + 1074).toNat = c := ⟨_, rfl⟩
    rw [show i.toNat = 0 by omega, Nat.shiftLeft_zero, hD, hc, show halfUp + 1 = D + c by omega, Nat.pow_add]
    have hpc := Nat.two_pow_pos c
    have hpD := Nat.two_pow_pos D
    by_cases hd : D ≤ m.log2 + 2
    · rw [show min D (m.log2 + 2) = D by omega, ← Nat.mul_assoc, ← Nat.mul_assoc]
      have q1 : m / 2 ^ D * 2 ^ D ≤ m := Nat.div_mul_le_self _ _
      have q2 : m < (m / 2 ^ D + 1) * 2 ^ D := by
        have := Nat.lt_div_mul_add hpD (a := m)
        rw [Nat.add_mul, Nat.one_mul]; exact this
      exact ⟨Nat.mul_le_mul_right _ q1, Nat.mul_lt_mul_of_pos_right q2 hpc⟩
    · have l2 : m < 2 ^ (m.log2 + 1) := Nat.lt_log2_self
      have l3 : 2 ^ (m.log2 + 1) ≤ 2 ^ (m.log2 + 2) := Nat.pow_le_pow_right (by decide) (by omega)
      have l4 : 2 ^ (m.log2 + 1) ≤ 2 ^ D := Nat.pow_le_pow_right (by decide) (by omega)
      rw [show min D (m.log2 + 2) = m.log2 + 2 by omega, Nat.div_eq_of_lt (by omega), Nat.zero_mul, Nat.zero_add, Nat.one_mul]
      exact ⟨Nat.zero_le _, Nat.mul_lt_mul_of_pos_right (by omega) hpc⟩

theorem trunc_val {x : Nat} (hf : rung x < 9218868437227405312) (h0 : 0 ≤ val x) :
    ∃ n : Nat, (double.read x).toInt .zero = some (n : Int) ∧ (n : Int) * 2 ^ (halfUp + 1) ≤ val x ∧ val x < ((n : Int) + 1) * 2 ^ (halfUp + 1) := by
  obtain ⟨m, i, e, hi, hm, hmm, _⟩ := read_val hf
  obtain ⟨f1, f2⟩ := cut_floor (negW x) m i hi
  have hv : val x = ((mag (rung x) : Nat) : Int) := by
    rw [val_signed] at h0 ⊢
    split
    · rename_i hn
      rw [if_pos hn] at h0
      omega
    · rfl
  rw [hv, ← hmm]
  generalize hq : Ieee.Toward.cut .zero (negW x) (m <<< i.toNat) (-i).toNat = q at *
  have g1 : (q : Int) * 2 ^ (halfUp + 1) ≤ ((m * 2 ^ (i + 1074).toNat : Nat) : Int) := by
    have := Int.ofNat_le.2 f1
    rw [Int.natCast_mul, Int.natCast_pow] at this
    exact this
  have g2 : ((m * 2 ^ (i + 1074).toNat : Nat) : Int) < ((q : Int) + 1) * 2 ^ (halfUp + 1) := by
    have := Int.ofNat_lt.2 f2
    rw [Int.natCast_mul (q + 1), Int.natCast_pow] at this
    exact this
  have hz : negW x = true → q = 0 := by
    intro hn
    rw [val_signed, if_pos hn] at h0
    have : mag (rung x) = 0 := by omega
    rw [← hmm] at this
    rw [this, Nat.le_zero, Nat.mul_eq_zero] at f1
    rcases f1 with h | h
    · exact h
    · have := Nat.two_pow_pos (halfUp + 1); omega
  refine ⟨q, ?_, g1, g2⟩
  rw [e]
  show some (Ieee.signed (negW x) (Ieee.Toward.cut .zero (negW x) (m <<< i.toNat) (-i).toNat) 0) = _
  rw [hq, signed_mul]
  by_cases hn : negW x = true
  · rw [if_pos hn, hz hn]; rfl
  · rw [if_neg hn]
end Go.Proofs.Ytnffbnnkcdgckab

/- Plain facts on floats of 64 bits: sums and products of half numbers are exact. No program in sight. -/
import Derived.Test.YtnffbnnkcdgckabFlt3
namespace Go.Proofs.Ytnffbnnkcdgckab
open Go.RowKit
open Ieee (Datum Format double)

/-- The exponent of a half in units of the least number. -/
def halfUp : Nat := 1073
theorem halfUp_eq : halfUp = 1073 := rfl
/-- The word a is the number k / 2. -/
def Is (a : Nat) (k : Int) : Prop := a < 18446744073709551616 ∧ rung a < 9218868437227405312 ∧ val a = k * 2 ^ halfUp

theorem mag_read {a : Nat} (h : rung a < 9218868437227405312) : ∃ m i, double.read a = .number (negW a) m i ∧ -1074 ≤ i ∧ m * 2 ^ (i + 1074).toNat = mag (rung a) ∧ m < 9007199254740992 := by
  have e1 : double.signWeight = 9223372036854775808 := by decide
  have e2 : double.binade = 4503599627370496 := by decide
  have e3 : double.infRung = 9218868437227405312 := by decide
  have e4 : double.leastPlace = -1074 := by decide
  unfold Format.read
  simp only [e1, e2, e3, e4]
  have hr : a % 9223372036854775808 = rung a := rfl
  have hn : (a / 9223372036854775808 % 2 == 1) = negW a := rfl
  rw [hr, hn]
  by_cases h1 : rung a < 4503599627370496
  · rw [if_pos h1]
    exact ⟨_, _, rfl, by omega, by unfold mag; rw [if_pos h1]; simp, by omega⟩
  · rw [if_neg h1, if_pos h]
    refine ⟨_, _, rfl, by omega, ?_, by omega⟩
    unfold mag
    rw [if_neg h1]
    congr 2
    omega

theorem word_lt64 (s : Bool) (R : Nat) (h : R < 9223372036854775808) : double.word s R < 18446744073709551616 := by
  have e1 : double.signWeight = 9223372036854775808 := by decide
  unfold Format.word
  rw [e1]
  split <;> omega
theorem nearest_lt64 (s : Bool) (m : Nat) (i : Int) : double.nearest s m i < 18446744073709551616 := double.write_lt (.number s m i)

/-- What is a half number is written as that. -/
theorem nearest_half (s : Bool) (m M : Nat) (i : Int) (hM : 0 < M) (hM' : M < 9007199254740992) (hi : -1074 ≤ i) (h : m * 2 ^ (i + 1074).toNat = M * 2 ^ halfUp) :
    rung (double.nearest s m i) < 9218868437227405312 ∧ negW (double.nearest s m i) = s ∧ mag (rung (double.nearest s m i)) = M * 2 ^ halfUp := by
  have hu := halfUp_eq
  by_cases hc : (i + 1074).toNat ≤ halfUp
  · obtain ⟨d, hd⟩ : ∃ d, halfUp = d + (i + 1074).toNat := ⟨halfUp - (i + 1074).toNat, by omega⟩
    have hm : m = M * 2 ^ d := by
      rw [hd, Nat.pow_add, ← Nat.mul_assoc] at h
      exact Nat.eq_of_mul_eq_mul_right (Nat.two_pow_pos _) h
    have := nearest_exact s m M d i hm hM hM' (by omega) (by omega)
    rw [show (i + (d : Int) + 1074).toNat = halfUp by omega] at this
    exact this
  · obtain ⟨d, hd⟩ : ∃ d, (i + 1074).toNat = d + halfUp := ⟨(i + 1074).toNat - halfUp, by omega⟩
    have hm : m * 2 ^ d = M := by
      rw [hd, Nat.pow_add, ← Nat.mul_assoc] at h
      exact Nat.eq_of_mul_eq_mul_right (Nat.two_pow_pos _) h
    have hp := Nat.two_pow_pos d
    have hm0 : 0 < m := by
      rcases Nat.eq_zero_or_pos m with h0 | h0
      · rw [h0, Nat.zero_mul] at hm; omega
      · exact h0
    have hm1 : m ≤ M := by rw [← hm]; exact Nat.le_mul_of_pos_right _ hp
    have hd' : d < 53 := by
      have h2 : 2 ^ d ≤ M := by rw [← hm]; exact Nat.le_mul_of_pos_left _ hm0
      by_cases hlt : d < 53
      · exact hlt
      · have : 2 ^ 53 ≤ 2 ^ d := Nat.pow_le_pow_right (by decide) (by omega)
        omega
    have := nearest_exact s m m 0 i (by simp) hm0 (by omega) (by omega) (by omega)
    refine ⟨this.1, this.2.1, this.2.2.trans ?_⟩
    rw [← h]
    congr 2
    omega

theorem val_signed (a : Nat) : val a = if negW a = true then -(mag (rung a) : Int) else (mag (rung a) : Int) := rfl
/-- A written half number, zero among them. -/
theorem is_nearest (s : Bool) (m : Nat) (i K : Int) (hK : K.natAbs < 9007199254740992) (hi : -1074 ≤ i) (hs : K ≠ 0 → s = decide (K < 0)) (h' : m * 2 ^ (i + 1074).toNat = K.natAbs * 2 ^ halfUp) : Is (double.nearest s m i) K := by
  by_cases h0 : K = 0
  · subst h0
    have hm : m = 0 := by
      rcases Nat.eq_zero_or_pos m with h1 | h1
      · exact h1
      · have := Nat.mul_pos h1 (Nat.two_pow_pos (i + 1074).toNat); rw [h', Int.natAbs_zero, Nat.zero_mul] at this; omega
    subst hm
    have e : double.nearest s 0 i = double.word s 0 := by unfold Format.nearest; rw [if_pos rfl]
    have hw := rung_word s 0 (by decide)
    refine ⟨nearest_lt64 _ _ _, by rw [e, hw.1]; decide, ?_⟩
    rw [e, val_signed, hw.1, mag_zero]
    split <;> simp
  · obtain ⟨r1, r2, r3⟩ := nearest_half s m K.natAbs i (by omega) hK hi h'
    refine ⟨nearest_lt64 _ _ _, r1, ?_⟩
    rw [val_signed, r2, r3, hs h0]
    by_cases hn : K < 0
    · rw [if_pos (decide_eq_true hn)]
      have : (K.natAbs : Int) = -K := by omega
      rw [Int.natCast_mul, this]; simp [Int.neg_mul]
    · rw [if_neg (by simpa using hn)]
      have : (K.natAbs : Int) = K := by omega
      rw [Int.natCast_mul, this]; simp

theorem signed_mul (s : Bool) (m : Nat) : Ieee.signed s m 0 = if s = true then -(m : Int) else (m : Int) := by
  unfold Ieee.signed; simp
/-- What a finite word stands for, in units of the least number. -/
theorem read_val {a : Nat} (h : rung a < 9218868437227405312) : ∃ m i, double.read a = .number (negW a) m i ∧ -1074 ≤ i ∧ m < 9007199254740992 ∧ m * 2 ^ (i + 1074).toNat = mag (rung a) ∧
    ∀ b : Int, -1074 ≤ b → b ≤ i → Ieee.signed (negW a) m (i - b).toNat * 2 ^ (b + 1074).toNat = val a := by
  obtain ⟨m, i, e, hi, hm, hl⟩ := mag_read h
  refine ⟨m, i, e, hi, hl, hm, fun b hb hbi => ?_⟩
  rw [← signed_scale, show (i - b).toNat + (b + 1074).toNat = (i + 1074).toNat by omega, val_signed, ← hm]
  unfold Ieee.signed
  rw [Nat.shiftLeft_eq]

theorem natAbs_mul_pow (x : Int) (n : Nat) : x.natAbs * 2 ^ n = (x * 2 ^ n).natAbs := by
  rw [Int.natAbs_mul, Int.natAbs_pow]; rfl

/-- A sum of half numbers. -/
theorem sum_is {s t : Bool} {m n : Nat} {i j k l : Int} (hi : -1074 ≤ i) (hj : -1074 ≤ j)
    (ha : ∀ b : Int, -1074 ≤ b → b ≤ i → Ieee.signed s m (i - b).toNat * 2 ^ (b + 1074).toNat = k * 2 ^ halfUp)
    (hb : ∀ b : Int, -1074 ≤ b → b ≤ j → Ieee.signed t n (j - b).toNat * 2 ^ (b + 1074).toNat = l * 2 ^ halfUp) (hs : (k + l).natAbs < 9007199254740992) :
    ∃ r, (Datum.sum (.number s m i) (.number t n j)).map double.write = some r ∧ Is r (k + l) := by
  refine ⟨_, rfl, ?_⟩
  have h1 := ha (min i j) (by omega) (by omega)
  have h2 := hb (min i j) (by omega) (by omega)
  show Is (double.nearest _ _ _) _
  generalize Ieee.signed s m (i - min i j).toNat = X at *
  generalize Ieee.signed t n (j - min i j).toNat = Y at *
  have h3 : (X + Y) * 2 ^ (min i j + 1074).toNat = (k + l) * 2 ^ halfUp := by rw [Int.add_mul, Int.add_mul, h1, h2]
  have p1 : (0 : Int) < 2 ^ (min i j + 1074).toNat := Int.pow_pos (by decide)
  have p2 : (0 : Int) < 2 ^ halfUp := Int.pow_pos (by decide)
  refine is_nearest _ _ _ _ hs (by omega) ?_ ?_
  · intro h0
    have hx : X + Y ≠ 0 := by
      intro hz; rw [hz, Int.zero_mul] at h3
      rcases Int.mul_eq_zero.1 h3.symm with h | h <;> omega
    rw [if_neg hx]
    by_cases hn : k + l < 0
    · have h5 : (X + Y) * 2 ^ (min i j + 1074).toNat < 0 := by rw [h3]; exact Int.mul_neg_of_neg_of_pos hn p2
      have h6 : X + Y < 0 := by
        by_cases h7 : X + Y < 0
        · exact h7
        · have := Int.mul_nonneg (show 0 ≤ X + Y by omega) (Int.le_of_lt p1); omega
      rw [decide_eq_true hn, decide_eq_true h6]
    · have h5 : 0 ≤ (X + Y) * 2 ^ (min i j + 1074).toNat := by rw [h3]; exact Int.mul_nonneg (by omega) (Int.le_of_lt p2)
      have h6 : ¬ X + Y < 0 := by
        intro h7
        have := Int.mul_neg_of_neg_of_pos h7 p1; omega
      rw [decide_eq_false hn, decide_eq_false h6]
  · rw [natAbs_mul_pow, h3, ← natAbs_mul_pow]

theorem add_is {a b : Nat} {k l : Int} (ha : Is a k) (hb : Is b l) (hs : (k + l).natAbs < 9007199254740992) : ∃ r, double.add a b = some r ∧ Is r (k + l) := by
  obtain ⟨m, i, e, hi, _, _, hv⟩ := read_val ha.2.1
  obtain ⟨n, j, e', hj, _, _, hw⟩ := read_val hb.2.1
  unfold Format.add
  rw [e, e']
  exact sum_is hi hj (fun c h1 h2 => (hv c h1 h2).trans ha.2.2) (fun c h1 h2 => (hw c h1 h2).trans hb.2.2) hs
theorem signed_not (s : Bool) (m u : Nat) : Ieee.signed (!s) m u = -Ieee.signed s m u := by
  unfold Ieee.signed; cases s <;> simp
theorem sub_is {a b : Nat} {k l : Int} (ha : Is a k) (hb : Is b l) (hs : (k - l).natAbs < 9007199254740992) : ∃ r, double.sub a b = some r ∧ Is r (k - l) := by
  obtain ⟨m, i, e, hi, _, _, hv⟩ := read_val ha.2.1
  obtain ⟨n, j, e', hj, _, _, hw⟩ := read_val hb.2.1
  unfold Format.sub
  rw [e, e']
  have := sum_is (s := negW a) (t := !negW b) (m := m) (n := n) (k := k) (l := -l) hi hj (fun c h1 h2 => (hv c h1 h2).trans ha.2.2)
    (fun c h1 h2 => by rw [signed_not, Int.neg_mul, hw c h1 h2, hb.2.2, Int.neg_mul]) (by omega)
  exact this
end Go.Proofs.Ytnffbnnkcdgckab

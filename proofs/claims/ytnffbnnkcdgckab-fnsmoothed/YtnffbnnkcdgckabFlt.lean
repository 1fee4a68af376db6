/- Plain facts on floats of 64 bits as words: their order is the order of whole numbers (the rung with its sign). No program in sight. -/
import Derived.WalkKit
import Derived.ProofKit
import Derived.OpenShut
import Derived.Laws.FloatArith
namespace Go.Proofs.Ytnffbnnkcdgckab
open Go.RowKit
open Ieee (Datum Format double)

/-- The rung of a word, its sign, whether it is no number, and its place in the order. -/
def rung (a : Nat) : Nat := a % 9223372036854775808
def negW (a : Nat) : Bool := a / 9223372036854775808 % 2 == 1
def isNan (a : Nat) : Bool := decide (9218868437227405312 < rung a)
def key (a : Nat) : Int := if negW a = true then -(rung a : Int) else (rung a : Int)
/-- How great the number of a rung is, in units of the least one. -/
def mag (r : Nat) : Nat := if r < 4503599627370496 then r else (4503599627370496 + r % 4503599627370496) * 2 ^ (r / 4503599627370496 - 1)

theorem mag_mono {r s : Nat} (h : r < s) : mag r < mag s := by
  unfold mag
  by_cases h1 : s < 4503599627370496
  · rw [if_pos (by omega), if_pos h1]; exact h
  · rw [if_neg h1]
    have p : 1 ≤ 2 ^ (s / 4503599627370496 - 1) := Nat.two_pow_pos _
    by_cases h2 : r < 4503599627370496
    · rw [if_pos h2]
      have : (4503599627370496 + s % 4503599627370496) * 1 ≤ (4503599627370496 + s % 4503599627370496) * 2 ^ (s / 4503599627370496 - 1) := Nat.mul_le_mul_left _ p
      omega
    · rw [if_neg h2]
      by_cases h3 : r / 4503599627370496 = s / 4503599627370496
      · rw [h3]
        exact Nat.mul_lt_mul_of_pos_right (by omega) p
      · obtain ⟨d, hd⟩ : ∃ d, s / 4503599627370496 - 1 = (r / 4503599627370496 - 1) + 1 + d := ⟨s / 4503599627370496 - 1 - (r / 4503599627370496 - 1) - 1, by omega⟩
        have pP : 1 ≤ 2 ^ (r / 4503599627370496 - 1) := Nat.two_pow_pos _
        have q : 1 ≤ 2 ^ d := Nat.two_pow_pos _
        rw [hd, Nat.pow_add, Nat.pow_add]
        generalize 2 ^ (r / 4503599627370496 - 1) = P at *
        generalize 2 ^ d = D at *
        have e1 : (4503599627370496 + r % 4503599627370496) * P < 9007199254740992 * P := Nat.mul_lt_mul_of_pos_right (by omega) pP
        have e2 : 4503599627370496 * (P * 2 ^ 1 * D) ≤ (4503599627370496 + s % 4503599627370496) * (P * 2 ^ 1 * D) := Nat.mul_le_mul_right _ (by omega)
        have e3 : P * 2 ^ 1 * 1 ≤ P * 2 ^ 1 * D := Nat.mul_le_mul_left _ q
        omega

theorem signed_scale (s : Bool) (m up k : Nat) : Ieee.signed s m (up + k) = Ieee.signed s m up * (2 : Int) ^ k := by
  unfold Ieee.signed
  rw [Nat.shiftLeft_eq, Nat.shiftLeft_eq, Nat.pow_add, ← Nat.mul_assoc]
  cases s <;> simp [Int.neg_mul]

theorem read_fin {a : Nat} (h : rung a < 9218868437227405312) : ∃ m i, double.read a = .number (negW a) m i ∧ -1074 ≤ i ∧ m * 2 ^ (i + 1074).toNat = mag (rung a) := by
  have e1 : double.signWeight = 9223372036854775808 := by decide
  have e2 : double.binade = 4503599627370496 := by decide
  have e3 : double.infRung = 9218868437227405312 := by decide
  have e4 : double.leastPlace = -1074 := by decide
  unfold Format.read
  simp only [e1, e2, e3, e4]
  have hr : a % 9223372036854775808 = rung a := rfl
  have hn : (a / 9223372036854775808 % 2 == 1) = negW a := rfl
  rw [hr, hn]
  by_cases h1 : rung a < 4503599627370496
  · rw [if_pos h1]
    exact ⟨_, _, rfl, by omega, by unfold mag; rw [if_pos h1]; simp⟩
  · rw [if_neg h1, if_pos h]
    refine ⟨_, _, rfl, by omega, ?_⟩
    unfold mag
    rw [if_neg h1]
    congr 2
    omega
theorem read_inf {a : Nat} (h : rung a = 9218868437227405312) : double.read a = .infinity (negW a) := by
  have e1 : double.signWeight = 9223372036854775808 := by decide
  have e2 : double.binade = 4503599627370496 := by decide
  have e3 : double.infRung = 9218868437227405312 := by decide
  unfold Format.read
  simp only [e1, e2, e3]
  have hr : a % 9223372036854775808 = rung a := rfl
  have hn : (a / 9223372036854775808 % 2 == 1) = negW a := rfl
  rw [hr, hn, if_neg (by omega), if_neg (by omega), if_pos h]
theorem read_nan {a : Nat} (h : 9218868437227405312 < rung a) : ∃ f, double.read a = .nan (negW a) f := by
  have e1 : double.signWeight = 9223372036854775808 := by decide
  have e2 : double.binade = 4503599627370496 := by decide
  have e3 : double.infRung = 9218868437227405312 := by decide
  unfold Format.read
  simp only [e1, e2, e3]
  have hr : a % 9223372036854775808 = rung a := rfl
  have hn : (a / 9223372036854775808 % 2 == 1) = negW a := rfl
  rw [hr, hn, if_neg (by omega), if_neg (by omega), if_neg (by omega)]
  exact ⟨_, rfl⟩

/-- The number of a rung with its sign. -/
def val (a : Nat) : Int := if negW a = true then -(mag (rung a) : Int) else (mag (rung a) : Int)

theorem compare_scale (x y : Int) (k : Nat) : compare (x * 2 ^ k) (y * 2 ^ k) = compare x y := by
  have p : (0 : Int) < 2 ^ k := Int.pow_pos (by decide)
  rcases Int.lt_trichotomy x y with h | h | h
  · rw [Int.compare_eq_lt.2 h, Int.compare_eq_lt.2 (Int.mul_lt_mul_of_pos_right h p)]
  · rw [h, Int.compare_eq_eq.2 rfl, Int.compare_eq_eq.2 rfl]
  · rw [Int.compare_eq_gt.2 h, Int.compare_eq_gt.2 (Int.mul_lt_mul_of_pos_right h p)]

theorem order_num (s t : Bool) (m n : Nat) (i j : Int) (hi : -1074 ≤ i) (hj : -1074 ≤ j) :
    Datum.order (.number s m i) (.number t n j) = some (compare (Ieee.signed s (m * 2 ^ (i + 1074).toNat) 0) (Ieee.signed t (n * 2 ^ (j + 1074).toNat) 0)) := by
  show some _ = _
  congr 1
  have f : ∀ (s : Bool) (m : Nat) (i : Int), -1074 ≤ i → min i j ≤ i ∨ True → ∀ b : Int, -1074 ≤ b → b ≤ i → Ieee.signed s (m * 2 ^ (i + 1074).toNat) 0 = Ieee.signed s m (i - b).toNat * 2 ^ (b + 1074).toNat := by
    intro s m i h0 _ b hb hbi
    rw [← signed_scale, show (i - b).toNat + (b + 1074).toNat = (i + 1074).toNat by omega]
    unfold Ieee.signed
    simp [Nat.shiftLeft_eq]
  rw [f s m i hi (.inr trivial) (min i j) (by omega) (by omega), f t n j hj (.inr trivial) (min i j) (by omega) (by omega), compare_scale]

theorem order_fin {a b : Nat} (ha : rung a < 9218868437227405312) (hb : rung b < 9218868437227405312) : double.order a b = some (compare (val a) (val b)) := by
  obtain ⟨m, i, e, hi, hm⟩ := read_fin ha
  obtain ⟨n, j, e', hj, hn⟩ := read_fin hb
  unfold Format.order
  rw [e, e', order_num _ _ _ _ _ _ hi hj, hm, hn]
  unfold val Ieee.signed
  simp

theorem mag_zero : mag 0 = 0 := rfl
theorem mag_pos {r : Nat} (h : 0 < r) : 0 < mag r := by have := mag_mono h; rw [mag_zero] at this; exact this
theorem val_lt {a b : Nat} (h : key a < key b) : val a < val b := by
  unfold key at h
  unfold val
  have pa := @mag_pos (rung a)
  have pb := @mag_pos (rung b)
  have z := mag_zero
  by_cases ha : negW a = true <;> by_cases hb : negW b = true
  · rw [if_pos ha, if_pos hb] at h; rw [if_pos ha, if_pos hb]
    have := @mag_mono (rung b) (rung a) (by omega); omega
  · rw [if_pos ha, if_neg hb] at h; rw [if_pos ha, if_neg hb]
    by_cases h0 : rung a = 0
    · have := pb (by omega); rw [h0, z]; omega
    · have := pa (by omega); omega
  · rw [if_neg ha, if_pos hb] at h; omega
  · rw [if_neg ha, if_neg hb] at h; rw [if_neg ha, if_neg hb]
    have := @mag_mono (rung a) (rung b) (by omega); omega
theorem val_eq {a b : Nat} (h : key a = key b) : val a = val b := by
  unfold key at h
  unfold val
  have z := mag_zero
  by_cases ha : negW a = true <;> by_cases hb : negW b = true
  · rw [if_pos ha, if_pos hb] at h; rw [if_pos ha, if_pos hb, show rung a = rung b by omega]
  · rw [if_pos ha, if_neg hb] at h; rw [if_pos ha, if_neg hb, show rung a = 0 by omega, show rung b = 0 by omega, z]; rfl
  · rw [if_neg ha, if_pos hb] at h; rw [if_neg ha, if_pos hb, show rung a = 0 by omega, show rung b = 0 by omega, z]; rfl
  · rw [if_neg ha, if_neg hb] at h; rw [if_neg ha, if_neg hb, show rung a = rung b by omega]
theorem compare_key (a b : Nat) : compare (val a) (val b) = compare (key a) (key b) := by
  rcases Int.lt_trichotomy (key a) (key b) with h | h | h
  · rw [Int.compare_eq_lt.2 h, Int.compare_eq_lt.2 (val_lt h)]
  · rw [Int.compare_eq_eq.2 h, Int.compare_eq_eq.2 (val_eq h)]
  · rw [Int.compare_eq_gt.2 h, Int.compare_eq_gt.2 (val_lt h)]

theorem order_key {a b : Nat} (ha : isNan a = false) (hb : isNan b = false) : double.order a b = some (compare (key a) (key b)) := by
  have ha' : rung a ≤ 9218868437227405312 := by simpa [isNan] using ha
  have hb' : rung b ≤ 9218868437227405312 := by simpa [isNan] using hb
  by_cases h1 : rung a = 9218868437227405312 <;> by_cases h2 : rung b = 9218868437227405312
  · unfold Format.order
    rw [read_inf h1, read_inf h2]
    show some (compare (negW b).toNat (negW a).toNat) = _
    unfold key
    rw [h1, h2]
    cases negW a <;> cases negW b <;> rfl
  · obtain ⟨n, j, e', hj, hn⟩ := read_fin (show rung b < 9218868437227405312 by omega)
    unfold Format.order
    rw [read_inf h1, e']
    show some (if negW a = true then Ordering.lt else Ordering.gt) = _
    congr 1
    unfold key
    rw [h1]
    by_cases ha : negW a = true
    · rw [if_pos ha, if_pos ha]; symm; rw [Int.compare_eq_lt]; split <;> omega
    · rw [if_neg ha, if_neg ha]; symm; rw [Int.compare_eq_gt]; split <;> omega
  · obtain ⟨n, j, e', hj, hn⟩ := read_fin (show rung a < 9218868437227405312 by omega)
    unfold Format.order
    rw [read_inf h2, e']
    show some (if negW b = true then Ordering.gt else Ordering.lt) = _
    congr 1
    unfold key
    rw [h2]
    by_cases ha : negW b = true
    · rw [if_pos ha, if_pos ha]; symm; rw [Int.compare_eq_gt]; split <;> omega
    · rw [if_neg ha, if_neg ha]; symm; rw [Int.compare_eq_lt]; split <;> omega
  · rw [order_fin (by omega) (by omega), compare_key]
theorem order_nan {a b : Nat} (h : isNan a = true ∨ isNan b = true) : double.order a b = none := by
  unfold Format.order
  rcases h with h | h
  · obtain ⟨f, e⟩ := read_nan (a := a) (by simpa [isNan] using h)
    rw [e]; rfl
  · obtain ⟨f, e⟩ := read_nan (a := b) (by simpa [isNan] using h)
    rw [e]; cases double.read a <;> rfl

/-- Go's tests on floats, in the words of the order's keys. -/
theorem feq {a b : Nat} (ha : isNan a = false) (hb : isNan b = false) : (double.order a b == some .eq) = decide (key a = key b) := by
  rw [order_key ha hb]
  rcases Int.lt_trichotomy (key a) (key b) with h | h | h
  · rw [Int.compare_eq_lt.2 h, decide_eq_false (by omega)]; rfl
  · rw [Int.compare_eq_eq.2 h, decide_eq_true h]; rfl
  · rw [Int.compare_eq_gt.2 h, decide_eq_false (by omega)]; rfl
theorem flt {a b : Nat} (ha : isNan a = false) (hb : isNan b = false) : (double.order a b == some .lt) = decide (key a < key b) := by
  rw [order_key ha hb]
  rcases Int.lt_trichotomy (key a) (key b) with h | h | h
  · rw [Int.compare_eq_lt.2 h, decide_eq_true h]; rfl
  · rw [Int.compare_eq_eq.2 h, decide_eq_false (by omega)]; rfl
  · rw [Int.compare_eq_gt.2 h, decide_eq_false (by omega)]; rfl
theorem fgt {a b : Nat} (ha : isNan a = false) (hb : isNan b = false) : (double.order a b == some .gt) = decide (key b < key a) := by
  rw [order_key ha hb]
  rcases Int.lt_trichotomy (key a) (key b) with h | h | h
  · rw [Int.compare_eq_lt.2 h, decide_eq_false (by omega)]; rfl
  · rw [Int.compare_eq_eq.2 h, decide_eq_false (by omega)]; rfl
  · rw [Int.compare_eq_gt.2 h, decide_eq_true h]; rfl
/-- Two words of one key are one word, or noughts. -/
theorem key_inj {a b : Nat} (ha : a < 18446744073709551616) (hb : b < 18446744073709551616) (h : key a = key b) : a = b ∨ (rung a = 0 ∧ rung b = 0) := by
  unfold key negW rung at h
  unfold rung
  simp only [beq_iff_eq] at h
  split at h <;> split at h <;> omega
end Go.Proofs.Ytnffbnnkcdgckab

/- Plain facts on floats of 64 bits: a number that the format holds is written exactly. No program in sight. -/
import Derived.Test.YtnffbnnkcdgckabFlt2
namespace Go.Proofs.Ytnffbnnkcdgckab
open Go.RowKit
open Ieee (Datum Format double)

theorem cut_none (s : Bool) (n : Nat) : Ieee.Toward.cut .even s n 0 = n := by
  unfold Ieee.Toward.cut
  simp [Nat.mod_one]
theorem mag_low {r : Nat} (h : r < 9007199254740992) : mag r = r := by
  unfold mag
  split
  · rfl
  · rw [show r / 4503599627370496 - 1 = 0 by omega]; omega
theorem mag_high {E k : Nat} (h0 : 4503599627370496 ≤ k) (h1 : k < 9007199254740992) : mag (E * 4503599627370496 + k) = k * 2 ^ E := by
  unfold mag
  rw [if_neg (by omega), show (E * 4503599627370496 + k) / 4503599627370496 - 1 = E by omega, show 4503599627370496 + (E * 4503599627370496 + k) % 4503599627370496 = k by omega]

theorem finish_low (s : Bool) (K : Nat) (hk : K < 9007199254740992) : ∃ R, double.word s (min (0 * 4503599627370496 + K) 9218868437227405312) = double.word s R ∧ R < 9218868437227405312 ∧ mag R = K := by
  have hmin : min (0 * 4503599627370496 + K) 9218868437227405312 = K := by omega
  have hlt : K < 9218868437227405312 := by omega
  exact ⟨K, by rw [hmin], hlt, mag_low hk⟩
theorem finish_high (s : Bool) (E K : Nat) (k1 : 4503599627370496 ≤ K) (k2 : K < 9007199254740992) (hE : E ≤ 2000) : ∃ R, double.word s (min (E * 4503599627370496 + K) 9218868437227405312) = double.word s R ∧ R < 9218868437227405312 ∧ mag R = K * 2 ^ E := by
  have hlt : E * 4503599627370496 + K < 9218868437227405312 := by omega
  have hmin : min (E * 4503599627370496 + K) 9218868437227405312 = E * 4503599627370496 + K := by omega
  exact ⟨E * 4503599627370496 + K, by rw [hmin], hlt, mag_high k1 k2⟩
theorem nearest_word (s : Bool) (m : Nat) (i : Int) (hm : 0 < m) (hm' : m < 9007199254740992) (hi : -1074 ≤ i) (hi' : i ≤ 900) :
    ∃ R, double.nearest s m i = double.word s R ∧ R < 9218868437227405312 ∧ mag R = m * 2 ^ (i + 1074).toNat := by
  have e1 : double.infRung = 9218868437227405312 := by decide
  have e2 : double.binade = 4503599627370496 := by decide
  have e3 : double.leastPlace = -1074 := by decide
  have e4 : double.fractionBits = 52 := by decide
  have l1 : 2 ^ m.log2 ≤ m := Nat.log2_self_le (by omega)
  have l2 : m < 2 ^ (m.log2 + 1) := Nat.lt_log2_self
  have l3 : m.log2 ≤ 52 := by
    by_cases h : m.log2 ≤ 52
    · exact h
    · have : 2 ^ 53 ≤ 2 ^ m.log2 := Nat.pow_le_pow_right (by decide) (by omega)
      omega
  unfold Format.nearest
  rw [if_neg (by omega)]
  dsimp only
  rw [e1, e2, e3, e4]
  generalize m.log2 = l at *
  by_cases hc : i + (l : Int) - 52 ≤ -1074
  · have hmax : max (i + (l : Int) - ((52 : Nat) : Int)) (-1074) = -1074 := by omega
    rw [hmax, show (-1074 - i).toNat = 0 by omega, cut_none, show (i - -1074).toNat = (i + 1074).toNat by omega, Nat.shiftLeft_eq, show ((-1074 : Int) - -1074).toNat = 0 by omega]
    have hk : m * 2 ^ (i + 1074).toNat < 9007199254740992 := by
      have a1 : m * 2 ^ (i + 1074).toNat < 2 ^ (l + 1) * 2 ^ (i + 1074).toNat := Nat.mul_lt_mul_of_pos_right l2 (Nat.two_pow_pos _)
      rw [← Nat.pow_add] at a1
      have a2 : 2 ^ (l + 1 + (i + 1074).toNat) ≤ 2 ^ 53 := Nat.pow_le_pow_right (by decide) (by omega)
      omega
    exact finish_low s _ hk
  · have hmax : max (i + (l : Int) - ((52 : Nat) : Int)) (-1074) = i + l - 52 := by omega
    rw [hmax, show (i + (l : Int) - 52 - i).toNat = 0 by omega, cut_none, show (i - (i + (l : Int) - 52)).toNat = 52 - l by omega, Nat.shiftLeft_eq]
    obtain ⟨E, hE⟩ : ∃ E : Nat, (i + (l : Int) - 52 - -1074).toNat = E := ⟨_, rfl⟩
    rw [hE]
    have k1 : 4503599627370496 ≤ m * 2 ^ (52 - l) := by
      have : 2 ^ l * 2 ^ (52 - l) ≤ m * 2 ^ (52 - l) := Nat.mul_le_mul_right _ l1
      rw [← Nat.pow_add, show l + (52 - l) = 52 by omega] at this
      omega
    have k2 : m * 2 ^ (52 - l) < 9007199254740992 := by
      have : m * 2 ^ (52 - l) < 2 ^ (l + 1) * 2 ^ (52 - l) := Nat.mul_lt_mul_of_pos_right l2 (Nat.two_pow_pos _)
      rw [← Nat.pow_add, show l + 1 + (52 - l) = 53 by omega] at this
      omega
    have hmul : m * 2 ^ (i + 1074).toNat = m * 2 ^ (52 - l) * 2 ^ E := by
      rw [Nat.mul_assoc, ← Nat.pow_add, show 52 - l + E = (i + 1074).toNat by omega]
    obtain ⟨R, h1, h2, h3⟩ := finish_high s E _ k1 k2 (by omega)
    exact ⟨R, h1, h2, h3.trans hmul.symm⟩

theorem cut_exact (s : Bool) (n d : Nat) (hd : d ≤ n.log2 + 2) (h : n % 2 ^ d = 0) : Ieee.Toward.cut .even s n d = n / 2 ^ d := by
  unfold Ieee.Toward.cut
  simp only [show min d (n.log2 + 2) = d by omega, Nat.shiftLeft_eq, Nat.one_mul, h]
  simp
theorem log2_shift {M : Nat} (k : Nat) (hM : 0 < M) : (M * 2 ^ k).log2 = M.log2 + k := by
  have hp := Nat.two_pow_pos k
  rw [Nat.log2_eq_iff (Nat.ne_of_gt (Nat.mul_pos hM hp))]
  have l1 : 2 ^ M.log2 ≤ M := Nat.log2_self_le (by omega)
  have l2 : M < 2 ^ (M.log2 + 1) := Nat.lt_log2_self
  constructor
  · rw [Nat.pow_add]; exact Nat.mul_le_mul_right _ l1
  · rw [show M.log2 + k + 1 = M.log2 + 1 + k by omega, Nat.pow_add]; exact Nat.mul_lt_mul_of_pos_right l2 hp

theorem nearest_shift (s : Bool) (M k : Nat) (i : Int) (hM : 0 < M) (hM' : M < 9007199254740992) (hi : -1074 ≤ i + k) :
    double.nearest s (M * 2 ^ k) i = double.nearest s M (i + k) := by
  have e3 : double.leastPlace = -1074 := by decide
  have e4 : double.fractionBits = 52 := by decide
  have hp := Nat.two_pow_pos k
  have l1 : 2 ^ M.log2 ≤ M := Nat.log2_self_le (by omega)
  have l3 : M.log2 ≤ 52 := by
    by_cases h : M.log2 ≤ 52
    · exact h
    · have : 2 ^ 53 ≤ 2 ^ M.log2 := Nat.pow_le_pow_right (by decide) (by omega)
      omega
  have h0 : M * 2 ^ k ≠ 0 := Nat.ne_of_gt (Nat.mul_pos hM hp)
  unfold Format.nearest
  rw [if_neg h0, if_neg (by omega), log2_shift k hM]
  dsimp only
  rw [e3, e4]
  have hlast : max (i + ((M.log2 + k : Nat) : Int) - ((52 : Nat) : Int)) (-1074) = max (i + (k : Int) + (M.log2 : Int) - ((52 : Nat) : Int)) (-1074) := by omega
  rw [hlast]
  obtain ⟨L, hL⟩ : ∃ L : Int, max (i + (k : Int) + (M.log2 : Int) - ((52 : Nat) : Int)) (-1074) = L := ⟨_, rfl⟩
  rw [hL]
  have hLe : L ≤ i + k := by omega
  have hr : (L - (i + (k : Int))).toNat = 0 := by omega
  rw [hr, cut_none]
  have key : Ieee.Toward.cut .even s ((M * 2 ^ k) <<< (i - L).toNat) (L - i).toNat = M <<< (i + (k : Int) - L).toNat := by
    by_cases hc : L ≤ i
    · rw [show (L - i).toNat = 0 by omega, cut_none, Nat.shiftLeft_eq, Nat.shiftLeft_eq, Nat.mul_assoc, ← Nat.pow_add, show k + (i - L).toNat = (i + (k : Int) - L).toNat by omega]
    · obtain ⟨d, hd⟩ : ∃ d : Nat, (L - i).toNat = d := ⟨_, rfl⟩
      obtain ⟨c, hc'⟩ : ∃ c : Nat, k = c + d := ⟨k - d, by omega⟩
      have hmul : M * 2 ^ k = M * 2 ^ c * 2 ^ d := by rw [hc', Nat.pow_add, Nat.mul_assoc]
      rw [show (i - L).toNat = 0 by omega, hd, Nat.shiftLeft_zero, cut_exact _ _ _ (by rw [log2_shift k hM]; omega) (by rw [hmul]; exact Nat.mul_mod_left _ _), hmul, Nat.mul_div_cancel _ (Nat.two_pow_pos d), Nat.shiftLeft_eq, show (i + (k : Int) - L).toNat = c by omega]
  rw [key]

/-- A number that the format holds is written exactly, however it is spelt. -/
theorem nearest_exact (s : Bool) (m M k : Nat) (i : Int) (hm : m = M * 2 ^ k) (hM : 0 < M) (hM' : M < 9007199254740992) (hi : -1074 ≤ i + k) (hi' : i + k ≤ 900) :
    rung (double.nearest s m i) < 9218868437227405312 ∧ negW (double.nearest s m i) = s ∧ mag (rung (double.nearest s m i)) = M * 2 ^ (i + k + 1074).toNat := by
  subst hm
  rw [nearest_shift s M k i hM hM' hi]
  obtain ⟨R, e, h1, h2⟩ := nearest_word s M (i + k) hM hM' hi hi'
  rw [e]
  have h := rung_word s R (by omega)
  rw [h.1]
  exact ⟨h1, h.2, h2⟩
end Go.Proofs.Ytnffbnnkcdgckab

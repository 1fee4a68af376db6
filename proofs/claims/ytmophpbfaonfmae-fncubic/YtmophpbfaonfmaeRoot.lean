/- What impl.CubeRoot and spec.CubeRoot answer: the greatest whole number whose cube is at most the number; no memory is touched. -/
import Derived.Test.YtmophpbfaonfmaeRows
import Derived.Test.YtmophpbfaonfmaeGrpB
import Derived.Outline
import Derived.LoopN
import Derived.Handy
namespace Go.Proofs.Ytmophpbfaonfmae
open Go.ChangeShapes Go.WideShapes Go.ChangeAt Go.RowKit
set_option maxRecDepth 100000
set_option linter.unusedVariables false

/-- Behind the bits from t on: R is a multiple of 2^t, its cube is at most n, that of R + 2^t is more. -/
def RootSt (n t R : Nat) : Prop := R % 2 ^ t = 0 ∧ R + 2 ^ t ≤ 2097152 ∧ R * R * R ≤ n ∧ n < (R + 2 ^ t) * (R + 2 ^ t) * (R + 2 ^ t)

def IsRoot (n r : Int) : Prop := (n < 0 ∧ r = -1) ∨ (0 ≤ n ∧ 0 ≤ r ∧ r ≤ 2097151 ∧ r * r * r ≤ n ∧ n < (r + 1) * (r + 1) * (r + 1))

theorem cube_mono {x y : Nat} (h : x ≤ y) : x * x * x ≤ y * y * y := Nat.mul_le_mul (Nat.mul_le_mul h h) h
theorem rootSt_start {n : Nat} (h : n ≤ 9223372036854775807) : RootSt n 21 0 := ⟨rfl, by decide, by omega, by omega⟩
theorem rootSt_yes {n j R M : Nat} (hM : M = R + 2 ^ j) (h : RootSt n (j + 1) R) (hc : M * M * M ≤ n) : RootSt n j M := by
  obtain ⟨h1, h2, h3, h4⟩ := h
  have e : M + 2 ^ j = R + 2 ^ (j + 1) := by rw [hM, Nat.pow_succ]; omega
  refine ⟨?_, by omega, hc, by rw [e]; exact h4⟩
  rw [Nat.pow_succ] at h1
  have h5 : R % 2 ^ j = 0 := by
    have := Nat.mod_mul_right_mod R (2 ^ j) 2
    rw [h1] at this
    simpa using this.symm
  rw [hM, Nat.add_mod, h5]
  simp
theorem rootSt_no {n j R M : Nat} (hM : M = R + 2 ^ j) (h : RootSt n (j + 1) R) (hc : n < M * M * M) : RootSt n j R := by
  obtain ⟨h1, h2, h3, h4⟩ := h
  rw [Nat.pow_succ] at h1 h2
  refine ⟨?_, by omega, h3, by rw [← hM]; exact hc⟩
  have := Nat.mod_mul_right_mod R (2 ^ j) 2
  rw [h1] at this
  simpa using this.symm
theorem or_i64 {R j : Nat} (h : R % 2 ^ (j + 1) = 0) (h2 : R + 2 ^ (j + 1) ≤ 2097152) : bits .or .i64 (R : Int) (wrap64 (2 ^ j)) = ((R + 2 ^ j : Nat) : Int) := by
  have p := Nat.two_pow_pos j
  have e : ((2 : Int) ^ j) = ((2 ^ j : Nat) : Int) := by simp
  have h3 : R + 2 * 2 ^ j ≤ 2097152 := by rw [Nat.pow_succ] at h2; omega
  rw [e, IntWalk.wrap64_in _ (by omega)]
  rw [bits_join .i64 63 (by decide) wraps_i64 (j + 1) (R : Int) ((2 ^ j : Nat) : Int) (by omega) (by exact_mod_cast h) (by omega) (by omega)
    (by have : 2 ^ j < 2 ^ (j + 1) := by rw [Nat.pow_succ]; omega
        exact_mod_cast this) (by omega)]
  simp
theorem cube_bd {M : Nat} (h : M ≤ 2097151) : ((M : Int) * M ≤ 4398042316801 ∧ 0 ≤ (M : Int) * M) ∧ ((M : Int) * M * M ≤ 9223358842721533951 ∧ 0 ≤ (M : Int) * M * M) := by
  have h' : (M : Int) ≤ 2097151 := by omega
  have a := Int.mul_le_mul h' h' (by omega) (by omega : (0 : Int) ≤ 2097151)
  have a0 : 0 ≤ (M : Int) * M := Int.mul_nonneg (by omega) (by omega)
  have b := Int.mul_le_mul a h' (by omega) (by omega : (0 : Int) ≤ 2097151 * 2097151)
  exact ⟨⟨by omega, a0⟩, by omega, Int.mul_nonneg a0 (by omega)⟩
theorem root_below (n : Nat) : ∀ k, n < (k + 1) * (k + 1) * (k + 1) → ∃ r, r ≤ k ∧ r * r * r ≤ n ∧ n < (r + 1) * (r + 1) * (r + 1)
  | 0, h => ⟨0, by omega, by omega, h⟩
  | k + 1, h => by
    by_cases hc : (k + 1) * (k + 1) * (k + 1) ≤ n
    · exact ⟨k + 1, by omega, hc, h⟩
    · obtain ⟨r, h1, h2⟩ := root_below n k (by omega)
      exact ⟨r, by omega, h2⟩
theorem root_exists (n : Int) (h : n ≤ 9223372036854775807) : ∃ r, IsRoot n r := by
  by_cases h0 : n < 0
  · exact ⟨-1, .inl ⟨h0, rfl⟩⟩
  · obtain ⟨N, rfl⟩ := Int.eq_ofNat_of_zero_le (show 0 ≤ n by omega)
    obtain ⟨r, h1, h2, h3⟩ := root_below N 2097151 (by omega)
    exact ⟨r, .inr ⟨by omega, by omega, by omega, by exact_mod_cast h2, by exact_mod_cast h3⟩⟩
theorem root_unique {n r s : Int} (r0 : 0 ≤ r) (s0 : 0 ≤ s) (h1 : r * r * r ≤ n) (h2 : n < (r + 1) * (r + 1) * (r + 1)) (h3 : s * s * s ≤ n) (h4 : n < (s + 1) * (s + 1) * (s + 1)) : r = s := by
  have mono : ∀ x y : Int, 0 ≤ x → x ≤ y → x * x * x ≤ y * y * y := by
    intro x y hx hy
    have h : x * x ≤ y * y := Int.mul_le_mul hy hy hx (by omega)
    exact Int.mul_le_mul h hy hx (Int.mul_nonneg (by omega) (by omega))
  by_cases h : r < s
  · have := mono (r + 1) s (by omega) (by omega); omega
  · by_cases h' : s < r
    · have := mono (s + 1) r (by omega) (by omega); omega
    · omega
theorem isRoot_nat {N R : Nat} {r : Int} (hr : IsRoot N r) (h : R * R * R ≤ N ∧ N < (R + 1) * (R + 1) * (R + 1) ∧ R ≤ 2097151) : (R : Int) = r := by
  rcases hr with ⟨h0, _⟩ | ⟨_, h1, h2, h3, h4⟩
  · omega
  · exact root_unique (by omega) h1 (by exact_mod_cast h.1) (by exact_mod_cast h.2.1) h3 h4

set_option maxHeartbeats 400000 in
theorem implRoot_in (n : Nat) (w : World) (h : n ≤ 9223372036854775807) :
    Calls Try.prog 84 #[.int .i64 n] w fun e w' => ∃ r : Nat, e = .returned (.int .i64 r) ∧ Hid (r * r * r ≤ n ∧ n < (r + 1) * (r + 1) * (r + 1) ∧ r ≤ 2097151) ∧ w' = w := by
  go_enter Try.func84, Try.ntmps84
  go_wp2
  go_loop [3, 4] (fun sr sb => ∃ R t : Nat, sr = .int .i64 R ∧ ((sb = .int .i64 (-1) ∧ t = 0) ∨ (∃ j : Nat, t = j + 1 ∧ sb = .int .i64 j)) ∧ t ≤ 21 ∧ RootSt n t R) (fun _ b => (intOf b + 1).toNat)
  case atStart => exact ⟨0, 21, rfl, .inr ⟨20, rfl, rfl⟩, by omega, rootSt_start h⟩
  case round =>
    obtain ⟨R, t, rfl, ⟨rfl, rfl⟩ | ⟨j, rfl, rfl⟩, ht, hst⟩ := hrel
    · go_wp2
      go_ret
      obtain ⟨h1, h2, h3, h4⟩ := hst
      exact ⟨R, rfl, ⟨h3, h4, by omega⟩, rfl⟩
    · have hj : (j : Int) ≤ 20 := by omega
      have hor := or_i64 hst.1 hst.2.1
      obtain ⟨M, hM⟩ : ∃ M : Nat, M = R + 2 ^ j := ⟨_, rfl⟩
      have hle : M ≤ 2097151 := by have h2 := hst.2.1; rw [Nat.pow_succ] at h2; have := Nat.two_pow_pos j; omega
      rw [← hM] at hor
      have HM : Hid (M = R + 2 ^ j) := hM
      clear hM
      obtain ⟨h2, h3⟩ := cube_bd hle
      by_cases hc : M * M * M ≤ n
      · have hc' : (M : Int) * M * M ≤ n := by exact_mod_cast hc
        have Hst := rootSt_yes HM.out hst hc
        clear hst hc
        go_wp2
        go_round
        case rel =>
          refine ⟨M, j, rfl, ?_, by omega, Hst⟩
          cases j with
          | zero => exact .inl ⟨by go_num, rfl⟩
          | succ j => exact .inr ⟨j, rfl, by go_num⟩
        case measure => first | (simp [intOf]; done) | (simp [intOf]; omega)
      · have hc' : ¬ (M : Int) * M * M ≤ n := by exact_mod_cast hc
        have Hst := rootSt_no HM.out hst (by omega)
        clear hst hc
        go_wp2
        go_round
        case rel =>
          refine ⟨R, j, rfl, ?_, by omega, Hst⟩
          cases j with
          | zero => exact .inl ⟨by go_num, rfl⟩
          | succ j => exact .inr ⟨j, rfl, by go_num⟩
        case measure => first | (simp [intOf]; done) | (simp [intOf]; omega)
theorem implRoot_any (n r : Int) (w : World) (hn : n ≤ 9223372036854775807) (hr : IsRoot n r) :
    Calls Try.prog 84 #[.int .i64 n] w fun e w' => e = .returned (.int .i64 r) ∧ w' = w := by
  by_cases h0 : n < 0
  · obtain rfl : r = -1 := by rcases hr with h | h <;> omega
    clear hr
    go_enter Try.func84, Try.ntmps84
    go_wp2
    go_ret
    exact ⟨rfl, rfl⟩
  · obtain ⟨N, rfl⟩ := Int.eq_ofNat_of_zero_le (show 0 ≤ n by omega)
    refine (implRoot_in N w (by omega)).mono ?_
    rintro e w' ⟨R, rfl, hR, rfl⟩
    exact ⟨ret_int (isRoot_nat hr hR.out), rfl⟩

set_option maxHeartbeats 400000 in
theorem specRoot_in (n : Nat) (w : World) (h : n ≤ 9223372036854775807) :
    Calls Try.prog 72 #[.int .i64 n] w fun e w' => ∃ r : Nat, e = .returned (.int .i64 r) ∧ Hid (r * r * r ≤ n ∧ n < (r + 1) * (r + 1) * (r + 1) ∧ r ≤ 2097151) ∧ w' = w := by
  go_enter Try.func72, Try.ntmps72
  go_wp2
  go_loop [3, 4] (fun sl sh => ∃ lo hi : Nat, sl = .int .i64 lo ∧ sh = .int .i64 hi ∧ lo ≤ hi ∧ hi ≤ 2097151 ∧ Hid (lo * lo * lo ≤ n ∧ n < (hi + 1) * (hi + 1) * (hi + 1))) (fun l h => (intOf h - intOf l).toNat)
  case atStart => exact ⟨0, 2097151, rfl, rfl, by omega, by omega, ⟨by omega, by omega⟩⟩
  case round =>
    obtain ⟨lo, hi, rfl, rfl, hlh, hhi, hst⟩ := hrel
    by_cases hlt : lo < hi
    · obtain ⟨M, hM⟩ : ∃ M : Nat, M = (lo + hi + 1) / 2 := ⟨_, rfl⟩
      have hm : ((lo : Int) + (hi : Int) + 1) / 2 = (M : Int) := by omega
      have hle : M ≤ 2097151 := by omega
      have hg1 : lo < M := by omega
      have hg2 : M ≤ hi := by omega
      clear hM
      obtain ⟨h2, h3⟩ := cube_bd hle
      by_cases hc : M * M * M ≤ n
      · have hc' : (M : Int) * M * M ≤ n := by exact_mod_cast hc
        have Hst : Hid (M * M * M ≤ n ∧ n < (hi + 1) * (hi + 1) * (hi + 1)) := ⟨hc, hst.out.2⟩
        clear hc hst
        go_wp2
        go_round
        case rel => exact ⟨M, hi, by first | rfl | rw [hm], rfl, by omega, by omega, Hst⟩
        case measure => first | (simp [intOf]; done) | (simp [intOf]; omega)
      · have hc' : ¬ (M : Int) * M * M ≤ n := by exact_mod_cast hc
        obtain ⟨K, hK⟩ : ∃ K : Nat, M = K + 1 := ⟨M - 1, by omega⟩
        have Hst : Hid (lo * lo * lo ≤ n ∧ n < (K + 1) * (K + 1) * (K + 1)) := ⟨hst.out.1, by rw [← hK]; omega⟩
        have HK : Hid (M = K + 1) := hK
        clear hc hst hK
        go_wp2
        go_round
        case rel => have := HK.out; exact ⟨lo, K, rfl, by go_num, by omega, by omega, Hst⟩
        case measure => first | (simp [intOf]; done) | (simp [intOf]; omega)
    · have e : lo = hi := by omega
      subst e
      go_wp2
      go_ret
      exact ⟨lo, rfl, ⟨hst.out.1, hst.out.2, hhi⟩, rfl⟩

theorem specRoot_any (n r : Int) (w : World) (hn : n ≤ 9223372036854775807) (hr : IsRoot n r) :
    Calls Try.prog 72 #[.int .i64 n] w fun e w' => e = .returned (.int .i64 r) ∧ w' = w := by
  by_cases h0 : n < 0
  · obtain rfl : r = -1 := by rcases hr with h | h <;> omega
    clear hr
    go_enter Try.func72, Try.ntmps72
    go_wp2
    go_ret
    exact ⟨rfl, rfl⟩
  · obtain ⟨N, rfl⟩ := Int.eq_ofNat_of_zero_le (show 0 ≤ n by omega)
    refine (specRoot_in N w (by omega)).mono ?_
    rintro e w' ⟨R, rfl, hR, rfl⟩
    exact ⟨ret_int (isRoot_nat hr hR.out), rfl⟩
end Go.Proofs.Ytmophpbfaonfmae

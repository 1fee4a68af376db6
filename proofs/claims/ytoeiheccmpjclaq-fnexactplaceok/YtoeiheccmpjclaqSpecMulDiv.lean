/- What spec.MulDiv answers: the product over the divisor, rounded down, where it is a number of 64 bits; no memory is touched. -/
import Derived.Test.YtoeiheccmpjclaqMulDiv
import Derived.Test.YtoeiheccmpjclaqSpecSt
namespace Go.Proofs.Ytoeiheccmpjclaq
open Go.ChangeShapes Go.WideShapes Go.ChangeAt Go.RowKit
set_option maxRecDepth 100000
set_option linter.unusedVariables false

theorem mask32_u64 (x : Int) (h₀ : 0 ≤ x) (h₁ : x < 18446744073709551616) : bits .and .u64 x 4294967295 = x % 4294967296 := by
  have := bits_mask .u64 64 (by decide) wraps_u64 32 (by decide) x h₀ (by simpa using h₁)
  simpa using this

theorem mul_bd2 (x y : Int) (hx : 0 ≤ x ∧ x ≤ 4294967295) (hy : 0 ≤ y ∧ y ≤ 2147483647) : 0 ≤ x * y ∧ x * y ≤ 9223372030412324865 :=
  ⟨Int.mul_nonneg hx.1 hy.1, by have := Int.mul_le_mul hx.2 hy.2 hy.1 (by omega : (0 : Int) ≤ 4294967295); omega⟩
theorem mul_bd3 (x y : Int) (hx : 0 ≤ x ∧ x ≤ 2147483647) (hy : 0 ≤ y ∧ y ≤ 2147483647) : 0 ≤ x * y ∧ x * y ≤ 4611686014132420609 :=
  ⟨Int.mul_nonneg hx.1 hy.1, by have := Int.mul_le_mul hx.2 hy.2 hy.1 (by omega : (0 : Int) ≤ 2147483647); omega⟩

set_option maxHeartbeats 1000000 in
theorem specMulDiv_in (A B C : Nat) (w : World) (a1 : A ≤ 9223372036854775807) (b1 : B ≤ 9223372036854775807) (c0 : 1 ≤ C) (c1 : C ≤ 9223372036854775807) :
    Calls Try.prog 68 #[.int .i64 A, .int .i64 B, .int .i64 C] w fun e w' => e = .returned (.tuple #[.int .i64 (mdQ A B C), .bool (mdOk A B C)]) ∧ w' = w := by
  have mA := mask32_u64 A (by omega) (by omega)
  have mB := mask32_u64 B (by omega) (by omega)
  have hx0 : 0 ≤ (A : Int) % 4294967296 ∧ (A : Int) % 4294967296 ≤ 4294967295 := by omega
  have hx1 : 0 ≤ (A : Int) / 4294967296 ∧ (A : Int) / 4294967296 ≤ 2147483647 := by omega
  have hy0 : 0 ≤ (B : Int) % 4294967296 ∧ (B : Int) % 4294967296 ≤ 4294967295 := by omega
  have hy1 : 0 ≤ (B : Int) / 4294967296 ∧ (B : Int) / 4294967296 ≤ 2147483647 := by omega
  have h00 := mul_bd ((A : Int) % 4294967296) ((B : Int) % 4294967296) hx0 hy0
  have h01 := mul_bd2 ((A : Int) % 4294967296) ((B : Int) / 4294967296) hx0 hy1
  have h10 := mul_bd2 ((B : Int) % 4294967296) ((A : Int) / 4294967296) hy0 hx1
  rw [Int.mul_comm] at h10
  have h11 := mul_bd3 ((A : Int) / 4294967296) ((B : Int) / 4294967296) hx1 hy1
  have mM := mask32_u64 ((A : Int) % 4294967296 * ((B : Int) / 4294967296) + (A : Int) % 4294967296 * ((B : Int) % 4294967296) / 4294967296) (by omega) (by omega)
  obtain ⟨HI, hHI⟩ : ∃ HI : Nat, HI = A * B / 18446744073709551616 := ⟨_, rfl⟩
  obtain ⟨LO, hLO⟩ : ∃ LO : Nat, LO = A * B % 18446744073709551616 := ⟨_, rfl⟩
  have hl : LO ≤ 18446744073709551615 := by omega
  have HN : Hid (A * B = HI * 18446744073709551616 + LO) := by show _ = _; omega
  have cast : ((A * B : Nat) : Int) = (A : Int) * B := by simp
  have parts : (A : Int) * B = _ := (show (A : Int) * B = ((A : Int) % 4294967296 + 4294967296 * ((A : Int) / 4294967296)) * ((B : Int) % 4294967296 + 4294967296 * ((B : Int) / 4294967296)) by congr 1 <;> omega).trans (mul_parts _ _ _ _)
  have hW : IntKind.u64.wrap ((A : Int) * (B : Int)) = (LO : Int) := by rw [IntKind.wrap_u64, ← cast]; omega
  have hE : (A : Int) / 4294967296 * ((B : Int) / 4294967296) + ((A : Int) % 4294967296 * ((B : Int) / 4294967296) + (A : Int) % 4294967296 * ((B : Int) % 4294967296) / 4294967296) / 4294967296 + ((A : Int) / 4294967296 * ((B : Int) % 4294967296) + ((A : Int) % 4294967296 * ((B : Int) / 4294967296) + (A : Int) % 4294967296 * ((B : Int) % 4294967296) / 4294967296) % 4294967296) / 4294967296 = (HI : Int) := by
    rw [← cast] at parts
    have e : (HI : Int) = ((A * B : Nat) : Int) / 18446744073709551616 := by omega
    rw [e, parts]
    clear parts e cast hHI hLO HN hW
    generalize (A : Int) % 4294967296 * ((B : Int) % 4294967296) = z00 at *
    generalize (A : Int) % 4294967296 * ((B : Int) / 4294967296) = z01 at *
    generalize (A : Int) / 4294967296 * ((B : Int) % 4294967296) = z10 at *
    generalize (A : Int) / 4294967296 * ((B : Int) / 4294967296) = z11 at *
    omega
  clear cast parts hHI hLO
  by_cases hge : C ≤ HI
  · go_enter Try.func68, Try.ntmps68
    go_wp2
    go_ret2
    have h := md_no (A := A) (B := B) (C := C) (by rw [HN.out]; exact spec_over (by omega) hge)
    exact ⟨ret_two h.2.symm h.1.symm, rfl⟩
  · go_enter Try.func68, Try.ntmps68
    go_wp2
    clear mA mB hx0 hx1 hy0 hy1 h00 h01 h10 h11 mM hW hE
    go_loop [17, 19, 20, 21] (fun sl sr sq si => ∃ i lo q r : Nat, sl = .int .u64 lo ∧ sr = .int .u64 r ∧ sq = .int .u64 q ∧ si = .int .i64 i ∧ i ≤ 64 ∧ SpecSt HI LO C i lo q r) (fun _ _ _ i => 64 - (intOf i).toNat)
    case atStart => exact ⟨0, LO, 0, HI, rfl, rfl, rfl, rfl, by omega, specSt_start (by omega) (by omega)⟩
    case round =>
      obtain ⟨i, lo, q, r, rfl, rfl, rfl, rfl, hi, hst⟩ := hrel
      by_cases h64 : i < 64
      · have hq := specSt_q63 h64 (by omega) (by omega) hst
        have hlo := specSt_lo hi hst
        have hr := hst.2.2
        have hor : bits .or .u64 ((r : Int) * 2) ((lo : Int) / 9223372036854775808) = (r : Int) * 2 + (lo : Int) / 9223372036854775808 := or1_u64 _ _ (by omega) (by omega) (by omega) (by omega) (by omega)
        have hor1 : bits .or .u64 ((q : Int) * 2) 1 = (q : Int) * 2 + 1 := or1_u64 _ _ (by omega) (by omega) (by omega) (by omega) (by omega)
        by_cases hc : C ≤ 2 * r + lo / 9223372036854775808
        · go_wp2
          go_round
          case rel => exact ⟨i + 1, lo * 2 % 18446744073709551616, 2 * q + 1, 2 * r + lo / 9223372036854775808 - C, by first | go_num | (rw [IntKind.wrap_u64]; go_num), by go_num, by go_num, by go_num, by omega, specSt_yes h64 hst hc⟩
          case measure => first | (simp [intOf]; done) | (simp [intOf]; omega)
        · go_wp2
          go_round
          case rel => exact ⟨i + 1, lo * 2 % 18446744073709551616, 2 * q, 2 * r + lo / 9223372036854775808, by first | go_num | (rw [IntKind.wrap_u64]; go_num), by go_num, by go_num, by go_num, by omega, specSt_no h64 hst (by omega)⟩
          case measure => first | (simp [intOf]; done) | (simp [intOf]; omega)
      · have e : i = 64 := by omega
        subst e
        have Hq : Hid (q = A * B / C) := by have := specSt_end hst; rw [← HN.out] at this; exact this
        have hq1 : q ≤ 18446744073709551615 := by have := specSt_q (by omega) (by omega) (by omega) hst; omega
        by_cases hbig : 9223372036854775807 < q
        · go_wp2
          go_ret2
          have h := md_no (A := A) (B := B) (C := C) (by rw [← Hq.out]; exact hbig)
          exact ⟨ret_two h.2.symm h.1.symm, rfl⟩
        · go_wp2
          go_ret2
          have h := md_yes (A := A) (B := B) (C := C) c0 (by rw [← Hq.out]; omega)
          exact ⟨ret_two (by rw [h.2, ← Hq.out]) h.1.symm, rfl⟩

theorem specMulDiv_out (a b c : Int) (w : World) (h : a < 0 ∨ b < 0 ∨ c < 1) :
    Calls Try.prog 68 #[.int .i64 a, .int .i64 b, .int .i64 c] w fun e w' => e = .returned (.tuple #[.int .i64 (mdQ a b c), .bool (mdOk a b c)]) ∧ w' = w := by
  have h' := md_out h
  rw [h'.1, h'.2]
  clear h'
  by_cases ha : a < 0
  · go_enter Try.func68, Try.ntmps68
    go_wp2
    go_ret2
    exact ⟨rfl, rfl⟩
  · by_cases hb : b < 0
    · go_enter Try.func68, Try.ntmps68
      go_wp2
      go_ret2
      exact ⟨rfl, rfl⟩
    · have hc : c < 1 := by omega
      go_enter Try.func68, Try.ntmps68
      go_wp2
      go_ret2
      exact ⟨rfl, rfl⟩

theorem specMulDiv_any (a b c : Int) (w : World) (a1 : a ≤ 9223372036854775807) (b1 : b ≤ 9223372036854775807) (c1 : c ≤ 9223372036854775807) :
    Calls Try.prog 68 #[.int .i64 a, .int .i64 b, .int .i64 c] w fun e w' => e = .returned (.tuple #[.int .i64 (mdQ a b c), .bool (mdOk a b c)]) ∧ w' = w := by
  by_cases h : a < 0 ∨ b < 0 ∨ c < 1
  · exact specMulDiv_out a b c w h
  · obtain ⟨A, rfl⟩ := Int.eq_ofNat_of_zero_le (show 0 ≤ a by omega)
    obtain ⟨B, rfl⟩ := Int.eq_ofNat_of_zero_le (show 0 ≤ b by omega)
    obtain ⟨C, rfl⟩ := Int.eq_ofNat_of_zero_le (show 0 ≤ c by omega)
    exact specMulDiv_in A B C w (by omega) (by omega) (by omega) (by omega)
end Go.Proofs.Ytoeiheccmpjclaq

/- What impl.MulDiv and spec.MulDiv answer: the product over the divisor, rounded down, where it is a number of 64 bits; only new memory is touched. -/
import Derived.Test.YtoeiheccmpjclaqDiv
import Derived.Test.YtoeiheccmpjclaqSpecSt
namespace Go.Proofs.Ytoeiheccmpjclaq
open Go.ChangeShapes Go.WideShapes Go.ChangeAt Go.RowKit
set_option maxRecDepth 100000
set_option linter.unusedVariables false

def mdOk (a b c : Int) : Bool := decide (0 ≤ a ∧ 0 ≤ b ∧ 1 ≤ c ∧ a * b / c ≤ 9223372036854775807)
def mdQ (a b c : Int) : Int := if mdOk a b c then a * b / c else 0

theorem md_out {a b c : Int} (h : a < 0 ∨ b < 0 ∨ c < 1) : mdOk a b c = false ∧ mdQ a b c = 0 := by
  have : mdOk a b c = false := by unfold mdOk; exact decide_eq_false (by omega)
  exact ⟨this, by unfold mdQ; rw [this]; rfl⟩
theorem md_cast (A B C : Nat) : (A : Int) * (B : Int) / (C : Int) = ((A * B / C : Nat) : Int) := by simp
theorem md_yes {A B C : Nat} (hc : 1 ≤ C) (h : A * B / C ≤ 9223372036854775807) : mdOk A B C = true ∧ mdQ A B C = ((A * B / C : Nat) : Int) := by
  have : mdOk A B C = true := by
    unfold mdOk; rw [md_cast]; generalize A * B / C = Q at *; exact decide_eq_true (by omega)
  exact ⟨this, by unfold mdQ; rw [this, md_cast]; rfl⟩
theorem md_no {A B C : Nat} (h : 9223372036854775807 < A * B / C) : mdOk A B C = false ∧ mdQ A B C = 0 := by
  have : mdOk A B C = false := by
    unfold mdOk; rw [md_cast]; generalize A * B / C = Q at *; exact decide_eq_false (by omega)
  exact ⟨this, by unfold mdQ; rw [this]; rfl⟩
theorem ret_two {k : IntKind} {a b : Int} {f g : Bool} (h : a = b) (h' : f = g) : Ending.returned (.tuple #[.int k a, .bool f]) = .returned (.tuple #[.int k b, .bool g]) := by rw [h, h']

theorem multiply_nat (A B : Nat) (w : World) (a1 : A ≤ 9223372036854775807) (b1 : B ≤ 9223372036854775807) :
    Calls Try.prog 92 #[.int .u64 A, .int .u64 B] w fun e w' => ∃ p0 p1 p2 p3 : Nat, e = .returned (.agg #[.int .u32 p0, .int .u32 p1, .int .u32 p2, .int .u32 p3]) ∧
      p0 ≤ 4294967295 ∧ p1 ≤ 4294967295 ∧ p2 ≤ 4294967295 ∧ p3 ≤ 4294967295 ∧
      Hid (A * B = p0 + 4294967296 * p1 + 18446744073709551616 * p2 + 79228162514264337593543950336 * p3) ∧ Below w.heap.size w w' := by
  refine (multiply_any A B w (by omega) (by omega) (by omega) (by omega)).mono ?_
  rintro e w' ⟨p0, p1, p2, p3, rfl, g0, g1, g2, g3, hv, hb⟩
  obtain ⟨P0, rfl⟩ := Int.eq_ofNat_of_zero_le g0.1
  obtain ⟨P1, rfl⟩ := Int.eq_ofNat_of_zero_le g1.1
  obtain ⟨P2, rfl⟩ := Int.eq_ofNat_of_zero_le g2.1
  obtain ⟨P3, rfl⟩ := Int.eq_ofNat_of_zero_le g3.1
  refine ⟨P0, P1, P2, P3, rfl, by omega, by omega, by omega, by omega, ?_, hb⟩
  show _ = _
  have : ((A * B : Nat) : Int) = (A : Int) * B := by simp
  omega

theorem divide_hid (p0 p1 p2 p3 c N : Nat) (w : World) (h0 : p0 ≤ 4294967295) (h1 : p1 ≤ 4294967295) (h2 : p2 ≤ 4294967295) (h3 : p3 ≤ 4294967295) (hc : 1 ≤ c) (hc' : c ≤ 9223372036854775807)
    (HN : Hid (N = p0 + 4294967296 * p1 + 18446744073709551616 * p2 + 79228162514264337593543950336 * p3)) :
    Calls Try.prog 91 #[.agg #[.int .u32 p0, .int .u32 p1, .int .u32 p2, .int .u32 p3], .int .u64 c] w fun e w' => ∃ (q : Nat) (f : Bool), e = .returned (.tuple #[.int .u64 q, .bool f]) ∧
      Hid ((f = true → q = N / c ∧ N / c ≤ 9223372036854775807) ∧ (f = false → 9223372036854775807 < N / c)) ∧ Below w.heap.size w w' := by
  refine (divide_any p0 p1 p2 p3 c N w h0 h1 h2 h3 hc hc' HN).mono ?_
  rintro e w' ⟨q, f, rfl, hy, hn, hb⟩
  exact ⟨q, f, rfl, ⟨hy, hn⟩, hb⟩

set_option maxHeartbeats 400000 in
theorem implMulDiv_in (A B C : Nat) (w : World) (a1 : A ≤ 9223372036854775807) (b1 : B ≤ 9223372036854775807) (c0 : 1 ≤ C) (c1 : C ≤ 9223372036854775807) :
    Calls Try.prog 90 #[.int .i64 A, .int .i64 B, .int .i64 C] w fun e w' => e = .returned (.tuple #[.int .i64 (mdQ A B C), .bool (mdOk A B C)]) ∧ Below w.heap.size w w' := by
  go_enter Try.func90, Try.ntmps90
  go_wp2_with (first
    | (go_at_call 92; refine (multiply_nat A B _ a1 b1).mono ?_; rintro e w1 ⟨p0, p1, p2, p3, rfl, g0, g1, g2, g3, hv, hb1⟩)
    | (go_at_call 91; refine (divide_hid p0 p1 p2 p3 C _ _ g0 g1 g2 g3 c0 c1 hv).mono ?_; rintro e w2 ⟨q, f, rfl, hyn, hb2⟩; cases f))
  · go_ret2
    have h := md_no (hyn.out.2 (by simp))
    exact ⟨ret_two h.2.symm h.1.symm, hb1.trans (hb2.mono hb1.size)⟩
  · go_ret2
    obtain ⟨hq, hle⟩ := hyn.out.1 (by simp)
    have h := md_yes c0 hle
    exact ⟨ret_two (by rw [h.2, ← hq]; exact IntWalk.wrap64_in _ (by omega)) h.1.symm, hb1.trans (hb2.mono hb1.size)⟩

theorem implMulDiv_out (a b c : Int) (w : World) (h : a < 0 ∨ b < 0 ∨ c < 1) :
    Calls Try.prog 90 #[.int .i64 a, .int .i64 b, .int .i64 c] w fun e w' => e = .returned (.tuple #[.int .i64 (mdQ a b c), .bool (mdOk a b c)]) ∧ Below w.heap.size w w' := by
  have h' := md_out h
  rw [h'.1, h'.2]
  clear h'
  by_cases ha : a < 0
  · go_enter Try.func90, Try.ntmps90
    go_wp2
    go_ret2
    exact ⟨rfl, Below.refl _ _⟩
  · by_cases hb : b < 0
    · go_enter Try.func90, Try.ntmps90
      go_wp2
      go_ret2
      exact ⟨rfl, Below.refl _ _⟩
    · have hc : c < 1 := by omega
      go_enter Try.func90, Try.ntmps90
      go_wp2
      go_ret2
      exact ⟨rfl, Below.refl _ _⟩

theorem implMulDiv_any (a b c : Int) (w : World) (a1 : a ≤ 9223372036854775807) (b1 : b ≤ 9223372036854775807) (c1 : c ≤ 9223372036854775807) :
    Calls Try.prog 90 #[.int .i64 a, .int .i64 b, .int .i64 c] w fun e w' => e = .returned (.tuple #[.int .i64 (mdQ a b c), .bool (mdOk a b c)]) ∧ Below w.heap.size w w' := by
  by_cases h : a < 0 ∨ b < 0 ∨ c < 1
  · exact implMulDiv_out a b c w h
  · obtain ⟨A, rfl⟩ := Int.eq_ofNat_of_zero_le (show 0 ≤ a by omega)
    obtain ⟨B, rfl⟩ := Int.eq_ofNat_of_zero_le (show 0 ≤ b by omega)
    obtain ⟨C, rfl⟩ := Int.eq_ofNat_of_zero_le (show 0 ≤ c by omega)
    exact implMulDiv_in A B C w (by omega) (by omega) (by omega) (by omega)
end Go.Proofs.Ytoeiheccmpjclaq

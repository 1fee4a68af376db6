/- Lemmas on the way, of several texts: Mul, Div, MulDiv, SpecMulDiv. -/
import Derived.Test.YtibfclfidaofkasRows
import Derived.Test.YtibfclfidaofkasGrpB
import Derived.Deep.QuietTactic
import Derived.BigQuiet
import Derived.Outline
import Derived.LoopN
import Derived.Handy
import Derived.WalkSmall
namespace Go.Proofs.Ytibfclfidaofkas
open Go.ChangeShapes Go.WideShapes Go.ChangeAt Go.RowKit
set_option maxRecDepth 100000
set_option linter.unusedVariables false

theorem mul_bd (x y : Int) (hx : 0 ≤ x ∧ x ≤ 4294967295) (hy : 0 ≤ y ∧ y ≤ 4294967295) : 0 ≤ x * y ∧ x * y ≤ 18446744065119617025 :=
  ⟨Int.mul_nonneg hx.1 hy.1, by have := Int.mul_le_mul hx.2 hy.2 hy.1 (by omega : (0 : Int) ≤ 4294967295); omega⟩
theorem mul_parts (x0 x1 y0 y1 : Int) :
    (x0 + 4294967296 * x1) * (y0 + 4294967296 * y1) = x0 * y0 + 4294967296 * (x0 * y1 + x1 * y0) + 18446744073709551616 * (x1 * y1) := by
  grind

/-- The product so far: behind k rounds of the outer loop. -/
def mulSt (x0 x1 y0 y1 : Int) (k : Int) (p0 p1 p2 p3 : Int) : Prop :=
  (k = 0 ∧ p0 = 0 ∧ p1 = 0 ∧ p2 = 0 ∧ p3 = 0) ∨
  (k = 1 ∧ p3 = 0 ∧ p0 + 4294967296 * p1 + 18446744073709551616 * p2 = x0 * y0 + 4294967296 * (x0 * y1)) ∨
  (k = 2 ∧ p0 + 4294967296 * p1 + 18446744073709551616 * p2 + 79228162514264337593543950336 * p3 = x0 * y0 + 4294967296 * (x0 * y1 + x1 * y0) + 18446744073709551616 * (x1 * y1))

end Go.Proofs.Ytibfclfidaofkas
namespace Go.Proofs.Ytibfclfidaofkas
open Go.ChangeShapes Go.WideShapes Go.ChangeAt Go.RowKit
set_option maxRecDepth 100000
set_option linter.unusedVariables false

end Go.Proofs.Ytibfclfidaofkas
namespace Go.Proofs.Ytibfclfidaofkas
open Go.ChangeShapes Go.WideShapes Go.ChangeAt Go.RowKit
set_option maxRecDepth 100000
set_option linter.unusedVariables false

def mdOk (a b c : Int) : Bool := decide (0 ≤ a ∧ 0 ≤ b ∧ 1 ≤ c ∧ a * b / c ≤ 9223372036854775807)
def mdQ (a b c : Int) : Int := if mdOk a b c then a * b / c else 0

theorem md_out {a b c : Int} (h : a < 0 ∨ b < 0 ∨ c < 1) : mdOk a b c = false ∧ mdQ a b c = 0 := by
  have : mdOk a b c = false := by unfold mdOk; exact decide_eq_false (by omega)
  exact ⟨this, by unfold mdQ; rw [this]; rfl⟩
theorem md_cast (A B C : Nat) : (A : Int) * (B : Int) / (C : Int) = ((A * B / C : Nat) : Int) := by simp
theorem md_yes {A B C : Nat} (hc : 1 ≤ C) (h : A * B / C ≤ 9223372036854775807) : mdOk A B C = true ∧ mdQ A B C = ((A * B / C : Nat) : Int) := by
  have : mdOk A B C = true := by
    unfold mdOk; rw [md_cast]; generalize A * B / C = Q at *; exact decide_eq_true (by omega)
  exact ⟨this, by unfold mdQ; rw [this, md_cast]; rfl⟩
theorem md_no {A B C : Nat} (h : 9223372036854775807 < A * B / C) : mdOk A B C = false ∧ mdQ A B C = 0 := by
  have : mdOk A B C = false := by
    unfold mdOk; rw [md_cast]; generalize A * B / C = Q at *; exact decide_eq_false (by omega)
  exact ⟨this, by unfold mdQ; rw [this]; rfl⟩
theorem ret_two {k : IntKind} {a b : Int} {f g : Bool} (h : a = b) (h' : f = g) : Ending.returned (.tuple #[.int k a, .bool f]) = .returned (.tuple #[.int k b, .bool g]) := by rw [h, h']

end Go.Proofs.Ytibfclfidaofkas
namespace Go.Proofs.Ytibfclfidaofkas
open Go.ChangeShapes Go.WideShapes Go.ChangeAt Go.RowKit
set_option maxRecDepth 100000
set_option linter.unusedVariables false

theorem mask32_u64 (x : Int) (h₀ : 0 ≤ x) (h₁ : x < 18446744073709551616) : bits .and .u64 x 4294967295 = x % 4294967296 := by
  have := bits_mask .u64 64 (by decide) wraps_u64 32 (by decide) x h₀ (by simpa using h₁)
  simpa using this

theorem mul_bd2 (x y : Int) (hx : 0 ≤ x ∧ x ≤ 4294967295) (hy : 0 ≤ y ∧ y ≤ 2147483647) : 0 ≤ x * y ∧ x * y ≤ 9223372030412324865 :=
  ⟨Int.mul_nonneg hx.1 hy.1, by have := Int.mul_le_mul hx.2 hy.2 hy.1 (by omega : (0 : Int) ≤ 4294967295); omega⟩
theorem mul_bd3 (x y : Int) (hx : 0 ≤ x ∧ x ≤ 2147483647) (hy : 0 ≤ y ∧ y ≤ 2147483647) : 0 ≤ x * y ∧ x * y ≤ 4611686014132420609 :=
  ⟨Int.mul_nonneg hx.1 hy.1, by have := Int.mul_le_mul hx.2 hy.2 hy.1 (by omega : (0 : Int) ≤ 2147483647); omega⟩

end Go.Proofs.Ytibfclfidaofkas

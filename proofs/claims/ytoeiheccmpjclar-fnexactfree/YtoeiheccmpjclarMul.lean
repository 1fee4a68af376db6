/- What impl.multiply answers: the product of two numbers of 64 bits as four words of 32 bits; only new memory is touched. -/
import Derived.Test.YtoeiheccmpjclarRows
import Derived.Test.YtoeiheccmpjclarBits
import Derived.Deep.QuietTactic
import Derived.BigQuiet
import Derived.Outline
import Derived.LoopN
import Derived.Handy
import Derived.WalkSmall
namespace Go.Proofs.Ytoeiheccmpjclar
open Go.ChangeShapes Go.WideShapes Go.ChangeAt Go.RowKit
set_option maxRecDepth 100000
set_option linter.unusedVariables false

theorem mul_bd (x y : Int) (hx : 0 ≤ x ∧ x ≤ 4294967295) (hy : 0 ≤ y ∧ y ≤ 4294967295) : 0 ≤ x * y ∧ x * y ≤ 18446744065119617025 :=
  ⟨Int.mul_nonneg hx.1 hy.1, by have := Int.mul_le_mul hx.2 hy.2 hy.1 (by omega : (0 : Int) ≤ 4294967295); omega⟩
theorem mul_parts (x0 x1 y0 y1 : Int) :
    (x0 + 4294967296 * x1) * (y0 + 4294967296 * y1) = x0 * y0 + 4294967296 * (x0 * y1 + x1 * y0) + 18446744073709551616 * (x1 * y1) := by
  grind

/-- The product so far: behind k rounds of the outer loop. -/
def mulSt (x0 x1 y0 y1 : Int) (k : Int) (p0 p1 p2 p3 : Int) : Prop :=
  (k = 0 ∧ p0 = 0 ∧ p1 = 0 ∧ p2 = 0 ∧ p3 = 0) ∨
  (k = 1 ∧ p3 = 0 ∧ p0 + 4294967296 * p1 + 18446744073709551616 * p2 = x0 * y0 + 4294967296 * (x0 * y1)) ∨
  (k = 2 ∧ p0 + 4294967296 * p1 + 18446744073709551616 * p2 + 79228162514264337593543950336 * p3 = x0 * y0 + 4294967296 * (x0 * y1 + x1 * y0) + 18446744073709551616 * (x1 * y1))

end Go.Proofs.Ytoeiheccmpjclar

/- What impl.MulDiv and spec.MulDiv answer: the product over the divisor, rounded down, where it is a number of 64 bits; only new memory is touched. -/
import Derived.Test.YtoeiheccmpjclarDiv
import Derived.Test.YtoeiheccmpjclarSpecSt
namespace Go.Proofs.Ytoeiheccmpjclar
open Go.ChangeShapes Go.WideShapes Go.ChangeAt Go.RowKit
set_option maxRecDepth 100000
set_option linter.unusedVariables false

def mdOk (a b c : Int) : Bool := decide (0 ≤ a ∧ 0 ≤ b ∧ 1 ≤ c ∧ a * b / c ≤ 9223372036854775807)
def mdQ (a b c : Int) : Int := if mdOk a b c then a * b / c else 0

theorem md_out {a b c : Int} (h : a < 0 ∨ b < 0 ∨ c < 1) : mdOk a b c = false ∧ mdQ a b c = 0 := by
  have : mdOk a b c = false := by unfold mdOk; exact decide_eq_false (by omega)
  exact ⟨this, by unfold mdQ; rw [this]; rfl⟩
theorem md_cast (A B C : Nat) : (A : Int) * (B : Int) / (C : Int) = ((A * B / C : Nat) : Int) := by simp
theorem md_yes {A B C : Nat} (hc : 1 ≤ C) (h : A * B / C ≤ 9223372036854775807) : mdOk A B C = true ∧ mdQ A B C = ((A * B / C : Nat) : Int) := by
  have : mdOk A B C = true := by
    unfold mdOk; rw [md_cast]; generalize A * B / C = Q at *; exact decide_eq_true (by omega)
  exact ⟨this, by unfold mdQ; rw [this, md_cast]; rfl⟩
theorem md_no {A B C : Nat} (h : 9223372036854775807 < A * B / C) : mdOk A B C = false ∧ mdQ A B C = 0 := by
  have : mdOk A B C = false := by
    unfold mdOk; rw [md_cast]; generalize A * B / C = Q at *; exact decide_eq_false (by omega)
  exact ⟨this, by unfold mdQ; rw [this]; rfl⟩
theorem ret_two {k : IntKind} {a b : Int} {f g : Bool} (h : a = b) (h' : f = g) : Ending.returned (.tuple #[.int k a, .bool f]) = .returned (.tuple #[.int k b, .bool g]) := by rw [h, h']

end Go.Proofs.Ytoeiheccmpjclar

/- What math.Signbit, math.IsNaN and impl.less answer, at every two words. -/
import Derived.Test.YtnffbnnkcdgckabOrd
import Derived.Laws.Externs
namespace Go.Proofs.Ytnffbnnkcdgckab
open Go.ChangeShapes Go.WideShapes Go.ChangeAt Go.RowKit
open Ieee (Datum Format double)
set_option linter.unusedVariables false

theorem negW_ge {a : Nat} (la : a < 18446744073709551616) : negW a = decide (9223372036854775808 ≤ a) := by
  unfold negW
  by_cases h : 9223372036854775808 ≤ a
  · rw [decide_eq_true h, show a / 9223372036854775808 % 2 = 1 by omega]; rfl
  · rw [decide_eq_false h, show a / 9223372036854775808 % 2 = 0 by omega]; rfl
/-- The lesser one comes first; of noughts the one with a minus. -/
def lessB (a b : Nat) : Bool := !isNan a && !isNan b && (decide (key a < key b) || (decide (key a = key b) && negW a && !negW b))
theorem lessB_nan {a b : Nat} (h : isNan a = true ∨ isNan b = true) : lessB a b = false := by unfold lessB; rcases h with h | h <;> simp [h]
theorem lessB_lt {a b : Nat} (ha : isNan a = false) (hb : isNan b = false) (h : key a < key b) : lessB a b = true := by unfold lessB; simp [ha, hb, h]
theorem lessB_gt {a b : Nat} (ha : isNan a = false) (hb : isNan b = false) (h : key b < key a) : lessB a b = false := by
  unfold lessB; rw [decide_eq_false (by omega : ¬ key a < key b), decide_eq_false (by omega : ¬ key a = key b)]; simp
theorem lessB_eq {a b : Nat} (ha : isNan a = false) (hb : isNan b = false) (h : key a = key b) : lessB a b = (negW a && !negW b) := by
  unfold lessB; rw [ha, hb, decide_eq_false (by omega : ¬ key a < key b), decide_eq_true h]; simp
end Go.Proofs.Ytnffbnnkcdgckab

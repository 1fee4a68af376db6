/- What spec.Least answers: the lesser word by the order's keys. -/
import Derived.Test.YtnffbnnkcdgckaiOrd
namespace Go.Proofs.Ytnffbnnkcdgckai
open Go.ChangeShapes Go.WideShapes Go.ChangeAt Go.RowKit
open Ieee (Datum Format double)
set_option linter.unusedVariables false

/-- The lesser of two words. -/
def leastW (a b : Nat) : Nat := if isNan a = true then b else if isNan b = true then a else if key a < key b ∨ (key a = key b ∧ negW a = true) then a else b
theorem leastW_nanl {a b : Nat} (h : isNan a = true) : leastW a b = b := by unfold leastW; rw [if_pos h]
theorem leastW_nanr {a b : Nat} (ha : isNan a = false) (h : isNan b = true) : leastW a b = a := by unfold leastW; rw [if_neg (by rw [ha]; simp), if_pos h]
theorem leastW_num {a b : Nat} (ha : isNan a = false) (hb : isNan b = false) : leastW a b = if key a < key b ∨ (key a = key b ∧ negW a = true) then a else b := by
  unfold leastW; rw [if_neg (by rw [ha]; simp), if_neg (by rw [hb]; simp)]
theorem leastW_lt {a b : Nat} (ha : isNan a = false) (hb : isNan b = false) (h : key a < key b) : leastW a b = a := by rw [leastW_num ha hb, if_pos (.inl h)]
theorem leastW_gt {a b : Nat} (ha : isNan a = false) (hb : isNan b = false) (h : key b < key a) : leastW a b = b := by rw [leastW_num ha hb, if_neg (by omega)]
theorem leastW_same (a : Nat) : leastW a a = a := by unfold leastW; split <;> (try split) <;> (try split) <;> rfl
theorem leastW_plus {b : Nat} (hb : isNan b = false) (hk : key b = 0) : leastW 0 b = b := by rw [leastW_num nan_zero hb, if_neg (by rw [key_zero, hk]; decide)]
theorem leastW_minus {b : Nat} (hb : isNan b = false) (hk : key b = 0) : leastW 9223372036854775808 b = 9223372036854775808 := by rw [leastW_num (by decide) hb, if_pos (.inr ⟨by rw [hk]; decide, by decide⟩)]

theorem leastW_lt64 {a b : Nat} (ha : a < 18446744073709551616) (hb : b < 18446744073709551616) : leastW a b < 18446744073709551616 := by unfold leastW; split <;> (try split) <;> (try split) <;> assumption

end Go.Proofs.Ytnffbnnkcdgckai

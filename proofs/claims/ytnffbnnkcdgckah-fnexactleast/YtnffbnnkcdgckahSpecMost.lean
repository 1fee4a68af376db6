/- What spec.Most answers: the greater word by the order's keys. -/
import Derived.Test.YtnffbnnkcdgckahOrd
namespace Go.Proofs.Ytnffbnnkcdgckah
open Go.ChangeShapes Go.WideShapes Go.ChangeAt Go.RowKit
open Ieee (Datum Format double)
set_option linter.unusedVariables false

/-- The greater of two words. -/
def mostW (a b : Nat) : Nat := if isNan a = true then b else if isNan b = true then a else if key b < key a ∨ (key a = key b ∧ negW a = false) then a else b
theorem mostW_nanl {a b : Nat} (h : isNan a = true) : mostW a b = b := by unfold mostW; rw [if_pos h]
theorem mostW_nanr {a b : Nat} (ha : isNan a = false) (h : isNan b = true) : mostW a b = a := by unfold mostW; rw [if_neg (by rw [ha]; simp), if_pos h]
theorem mostW_num {a b : Nat} (ha : isNan a = false) (hb : isNan b = false) : mostW a b = if key b < key a ∨ (key a = key b ∧ negW a = false) then a else b := by
  unfold mostW; rw [if_neg (by rw [ha]; simp), if_neg (by rw [hb]; simp)]
theorem mostW_lt {a b : Nat} (ha : isNan a = false) (hb : isNan b = false) (h : key a < key b) : mostW a b = b := by rw [mostW_num ha hb, if_neg (by omega)]
theorem mostW_gt {a b : Nat} (ha : isNan a = false) (hb : isNan b = false) (h : key b < key a) : mostW a b = a := by rw [mostW_num ha hb, if_pos (.inl h)]
theorem mostW_same (a : Nat) : mostW a a = a := by unfold mostW; split <;> (try split) <;> (try split) <;> rfl
theorem mostW_plus {b : Nat} (hb : isNan b = false) (hk : key b = 0) : mostW 0 b = 0 := by rw [mostW_num nan_zero hb, if_pos (.inr ⟨by rw [key_zero, hk], by decide⟩)]
theorem mostW_minus {b : Nat} (hb : isNan b = false) (hk : key b = 0) : mostW 9223372036854775808 b = b := by rw [mostW_num (by decide) hb, if_neg (by rw [hk]; decide)]

theorem mostW_lt64 {a b : Nat} (ha : a < 18446744073709551616) (hb : b < 18446744073709551616) : mostW a b < 18446744073709551616 := by unfold mostW; split <;> (try split) <;> (try split) <;> assumption

end Go.Proofs.Ytnffbnnkcdgckah

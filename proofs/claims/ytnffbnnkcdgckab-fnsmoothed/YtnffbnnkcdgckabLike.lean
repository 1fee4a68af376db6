/- What the laws' likeness of two floats answers: whether they are one reading. -/
import Derived.Test.YtnffbnnkcdgckabOrd
namespace Go.Proofs.Ytnffbnnkcdgckab
open Go.ChangeShapes Go.WideShapes Go.ChangeAt Go.RowKit
open Ieee (Datum Format double)
set_option linter.unusedVariables false

/-- Whether two words are one reading. -/
def likeB (a b : Nat) : Bool := if isNan a = true ∨ isNan b = true then isNan a && isNan b else decide (a = b)

theorem like_nan (a b : Nat) (w : World) (h : isNan a = true ∨ isNan b = true) :
    Calls Try.prog 8 #[.float .f64 a, .float .f64 b] w fun e w' => e = .returned (.bool (likeB a b)) ∧ w' = w := by
  have hl : likeB a b = (isNan a && isNan b) := by unfold likeB; rw [if_pos h]
  rw [hl]
  clear hl
  cases ha : isNan a <;> cases hb : isNan b
  · rw [ha, hb] at h; simp at h
  · have o1 := order_self ha
    have o2 := order_none (a := b) (b := b) (.inl hb)
    go_enter Try.func8, Try.ntmps8
    go_wp2
    go_ret
    exact ⟨rfl, rfl⟩
  · have o1 := order_none (a := a) (b := a) (.inl ha)
    have o2 := order_self hb
    go_enter Try.func8, Try.ntmps8
    go_wp2
    go_ret
    exact ⟨rfl, rfl⟩
  · have o1 := order_none (a := a) (b := a) (.inl ha)
    have o2 := order_none (a := b) (b := b) (.inl hb)
    go_enter Try.func8, Try.ntmps8
    go_wp2
    go_ret
    exact ⟨rfl, rfl⟩
theorem like_num (a b : Nat) (w : World) (ha : isNan a = false) (hb : isNan b = false) (la : a < 18446744073709551616) (lb : b < 18446744073709551616) :
    Calls Try.prog 8 #[.float .f64 a, .float .f64 b] w fun e w' => e = .returned (.bool (likeB a b)) ∧ w' = w := by
  have hl : likeB a b = decide (a = b) := by unfold likeB; rw [if_neg (by rw [ha, hb]; simp)]
  rw [hl]
  clear hl
  have o1 := order_self ha
  have o2 := order_self hb
  obtain ⟨r, hr⟩ := div_one ha
  obtain ⟨s, hs⟩ := div_one hb
  have q1 := run_quo_one hr
  have q2 := run_quo_one hs
  have n1 := arith_ok (op := .quo) hr
  have n2 := arith_ok (op := .quo) hs
  by_cases hk : key a = key b
  · have o3 := order_eq ha hb hk
    by_cases he : a = b
    · subst he
      obtain rfl : r = s := by rw [hr] at hs; exact Option.some.inj hs
      have o4 := order_self n1
      rw [decide_eq_true (rfl : a = a)]
      clear hk
      go_enter Try.func8, Try.ntmps8
      go_wp2
      go_ret
      exact ⟨rfl, rfl⟩
    · rw [decide_eq_false he]
      have hz : rung a = 0 ∧ rung b = 0 := by rcases key_inj la lb hk with h | h; exact absurd h he; exact h
      have o4 : FloatKind.f64.format.order r s = some .lt ∨ FloatKind.f64.format.order r s = some .gt := by
        rcases nought_cases la hz.1 with rfl | rfl <;> rcases nought_cases lb hz.2 with rfl | rfl
        · exact absurd rfl he
        · obtain rfl : r = 9218868437227405312 := by have : double.div 4607182418800017408 0 = some 9218868437227405312 := by decide
                                                     rw [this] at hr; exact (Option.some.inj hr).symm
          obtain rfl : s = 18442240474082181120 := by have : double.div 4607182418800017408 9223372036854775808 = some 18442240474082181120 := by decide
                                                      rw [this] at hs; exact (Option.some.inj hs).symm
          exact .inr (by decide)
        · obtain rfl : s = 9218868437227405312 := by have : double.div 4607182418800017408 0 = some 9218868437227405312 := by decide
                                                     rw [this] at hs; exact (Option.some.inj hs).symm
          obtain rfl : r = 18442240474082181120 := by have : double.div 4607182418800017408 9223372036854775808 = some 18442240474082181120 := by decide
                                                      rw [this] at hr; exact (Option.some.inj hr).symm
          exact .inl (by decide)
        · exact absurd rfl he
      clear hk hz
      rcases o4 with o4 | o4
      · go_enter Try.func8, Try.ntmps8
        go_wp2
        go_ret
        exact ⟨rfl, rfl⟩
      · go_enter Try.func8, Try.ntmps8
        go_wp2
        go_ret
        exact ⟨rfl, rfl⟩
  · rw [decide_eq_false (fun h => hk (by rw [h]))]
    have o3 : FloatKind.f64.format.order a b = some .lt ∨ FloatKind.f64.format.order a b = some .gt := by
      rcases Int.lt_trichotomy (key a) (key b) with h | h | h
      · exact .inl (order_lt ha hb h)
      · exact absurd h hk
      · exact .inr (order_gt ha hb h)
    clear hk
    rcases o3 with o3 | o3
    · go_enter Try.func8, Try.ntmps8
      go_wp2
      go_ret
      exact ⟨rfl, rfl⟩
    · go_enter Try.func8, Try.ntmps8
      go_wp2
      go_ret
      exact ⟨rfl, rfl⟩
theorem like_any (a b : Nat) (w : World) (la : a < 18446744073709551616) (lb : b < 18446744073709551616) :
    Calls Try.prog 8 #[.float .f64 a, .float .f64 b] w fun e w' => e = .returned (.bool (likeB a b)) ∧ w' = w := by
  by_cases h : isNan a = true ∨ isNan b = true
  · exact like_nan a b w h
  · exact like_num a b w (by simpa using fun h' => h (.inl h')) (by simpa using fun h' => h (.inr h')) la lb
end Go.Proofs.Ytnffbnnkcdgckab

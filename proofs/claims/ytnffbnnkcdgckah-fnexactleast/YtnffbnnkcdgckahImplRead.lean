/- What impl's readings answer: Least, Most, Ratio. -/
import Derived.Test.YtnffbnnkcdgckahSpecLeast
import Derived.Test.YtnffbnnkcdgckahSpecMost
import Derived.Test.YtnffbnnkcdgckahSpecRatio
import Derived.Test.YtnffbnnkcdgckahSign
namespace Go.Proofs.Ytnffbnnkcdgckah
open Go.ChangeShapes Go.WideShapes Go.ChangeAt Go.RowKit
open Ieee (Datum Format double)
set_option linter.unusedVariables false

theorem plus_same {a b : Nat} (la : a < 18446744073709551616) (lb : b < 18446744073709551616) (h : key a = key b) (n : negW a = negW b) : a = b := by
  rcases key_inj la lb h with h | ⟨h1, h2⟩
  · exact h
  · rw [negW_ge la, negW_ge lb] at n
    unfold rung at h1 h2
    have := decide_eq_decide.1 n
    omega
theorem leastW_less {a b : Nat} (la : a < 18446744073709551616) (lb : b < 18446744073709551616) (ha : isNan a = false) : leastW a b = if lessB b a = true then b else a := by
  cases hb : isNan b
  · rcases Int.lt_trichotomy (key a) (key b) with hk | hk | hk
    · rw [leastW_lt ha hb hk, lessB_gt hb ha hk]; rfl
    · rw [leastW_num ha hb, lessB_eq hb ha hk.symm]
      cases na : negW a
      · rw [if_neg (by intro h; rcases h with h | ⟨_, h⟩; omega; cases h)]
        cases nb : negW b
        · exact (plus_same la lb hk (by rw [na, nb])).symm
        · rfl
      · rw [if_pos (.inr ⟨hk, rfl⟩)]; simp
    · rw [leastW_gt ha hb hk, lessB_lt hb ha hk]; rfl
  · rw [leastW_nanr ha hb, lessB_nan (.inl hb)]; rfl
theorem mostW_less {a b : Nat} (la : a < 18446744073709551616) (lb : b < 18446744073709551616) (ha : isNan a = false) : mostW a b = if lessB a b = true then b else a := by
  cases hb : isNan b
  · rcases Int.lt_trichotomy (key a) (key b) with hk | hk | hk
    · rw [mostW_lt ha hb hk, lessB_lt ha hb hk]; rfl
    · rw [lessB_eq ha hb hk]
      by_cases he : a = b
      · subst he; rw [mostW_same]; split <;> rfl
      · have hz : rung a = 0 ∧ rung b = 0 := by rcases key_inj la lb hk with h' | h'; exact absurd h' he; exact h'
        rcases nought_cases la hz.1 with rfl | rfl
        · rw [mostW_plus hb (by rw [← hk, key_zero])]; rfl
        · rw [mostW_minus hb (by rw [← hk]; decide)]
          rcases nought_cases lb hz.2 with rfl | rfl
          · rfl
          · exact absurd rfl he
    · rw [mostW_gt ha hb hk, lessB_gt ha hb hk]; rfl
  · rw [mostW_nanr ha hb, lessB_nan (.inr hb)]; rfl
theorem implLeast_any (a b : Nat) (w : World) (la : a < 18446744073709551616) (lb : b < 18446744073709551616) :
    Calls Try.prog 21 #[.float .f64 a, .float .f64 b] w fun e w' => e = .returned (.float .f64 (leastW a b)) ∧ w' = w := by
  cases ha : isNan a
  · rw [leastW_less la lb ha]
    have o1 := order_self ha
    clear ha
    cases hl : lessB b a
    · rw [if_neg (by decide)]
      go_enter Try.func21, Try.ntmps21
      go_wp2_with (first
        | (go_at_call 35; refine (less_any _ _ _ (by assumption) (by assumption)).mono ?_; rintro e w2 ⟨rfl, rfl⟩)
        | go_in)
      go_ret
      exact ⟨rfl, rfl⟩
    · rw [if_pos rfl]
      go_enter Try.func21, Try.ntmps21
      go_wp2_with (first
        | (go_at_call 35; refine (less_any _ _ _ (by assumption) (by assumption)).mono ?_; rintro e w2 ⟨rfl, rfl⟩)
        | go_in)
      go_ret
      exact ⟨rfl, rfl⟩
  · have o1 := order_none (a := a) (b := a) (.inl ha)
    rw [leastW_nanl ha]
    clear ha
    go_enter Try.func21, Try.ntmps21
    go_wp2
    go_ret
    exact ⟨rfl, rfl⟩
end Go.Proofs.Ytnffbnnkcdgckah

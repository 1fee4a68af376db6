/- What impl's readings answer: Least, Most, Ratio. -/
import Derived.Test.YtnffbnnkcdgckaaSpecLeast
import Derived.Test.YtnffbnnkcdgckaaSpecMost
import Derived.Test.YtnffbnnkcdgckaaSpecRatio
import Derived.Test.YtnffbnnkcdgckaaSign
namespace Go.Proofs.Ytnffbnnkcdgckaa
open Go.ChangeShapes Go.WideShapes Go.ChangeAt Go.RowKit
open Ieee (Datum Format double)
set_option linter.unusedVariables false

theorem plus_same {a b : Nat} (la : a < 18446744073709551616) (lb : b < 18446744073709551616) (h : key a = key b) (n : negW a = negW b) : a = b := by
  rcases key_inj la lb h with h | ⟨h1, h2⟩
  · exact h
  · rw [negW_ge la, negW_ge lb] at n
    unfold rung at h1 h2
    have := decide_eq_decide.1 n
    omega
theorem leastW_less {a b : Nat} (la : a < 18446744073709551616) (lb : b < 18446744073709551616) (ha : isNan a = false) : leastW a b = if lessB b a = true then b else a := by
  cases hb : isNan b
  · rcases Int.lt_trichotomy (key a) (key b) with hk | hk | hk
    · rw [leastW_lt ha hb hk, lessB_gt hb ha hk]; rfl
    · rw [leastW_num ha hb, lessB_eq hb ha hk.symm]
      cases na : negW a
      · rw [if_neg (by intro h; rcases h with h | ⟨_, h⟩; omega; cases h)]
        cases nb : negW b
        · exact (plus_same la lb hk (by rw [na, nb])).symm
        · rfl
      · rw [if_pos (.inr ⟨hk, rfl⟩)]; simp
    · rw [leastW_gt ha hb hk, lessB_lt hb ha hk]; rfl
  · rw [leastW_nanr ha hb, lessB_nan (.inl hb)]; rfl
theorem mostW_less {a b : Nat} (la : a < 18446744073709551616) (lb : b < 18446744073709551616) (ha : isNan a = false) : mostW a b = if lessB a b = true then b else a := by
  cases hb : isNan b
  · rcases Int.lt_trichotomy (key a) (key b) with hk | hk | hk
    · rw [mostW_lt ha hb hk, lessB_lt ha hb hk]; rfl
    · rw [lessB_eq ha hb hk]
      by_cases he : a = b
      · subst he; rw [mostW_same]; split <;> rfl
      · have hz : rung a = 0 ∧ rung b = 0 := by rcases key_inj la lb hk with h' | h'; exact absurd h' he; exact h'
        rcases nought_cases la hz.1 with rfl | rfl
        · rw [mostW_plus hb (by rw [← hk, key_zero])]; rfl
        · rw [mostW_minus hb (by rw [← hk]; decide)]
          rcases nought_cases lb hz.2 with rfl | rfl
          · rfl
          · exact absurd rfl he
    · rw [mostW_gt ha hb hk, lessB_gt ha hb hk]; rfl
  · rw [mostW_nanr ha hb, lessB_nan (.inr hb)]; rfl
theorem implLeast_any (a b : Nat) (w : World) (la : a < 18446744073709551616) (lb : b < 18446744073709551616) :
    Calls Try.prog 25 #[.float .f64 a, .float .f64 b] w fun e w' => e = .returned (.float .f64 (leastW a b)) ∧ w' = w := by
  cases ha : isNan a
  · rw [leastW_less la lb ha]
    have o1 := order_self ha
    clear ha
    cases hl : lessB b a
    · rw [if_neg (by decide)]
      go_enter Try.func25, Try.ntmps25
      go_wp2_with (first
        | (go_at_call 51; refine (less_any _ _ _ (by assumption) (by assumption)).mono ?_; rintro e w2 ⟨rfl, rfl⟩)
        | go_in)
      go_ret
      exact ⟨rfl, rfl⟩
    · rw [if_pos rfl]
      go_enter Try.func25, Try.ntmps25
      go_wp2_with (first
        | (go_at_call 51; refine (less_any _ _ _ (by assumption) (by assumption)).mono ?_; rintro e w2 ⟨rfl, rfl⟩)
        | go_in)
      go_ret
      exact ⟨rfl, rfl⟩
  · have o1 := order_none (a := a) (b := a) (.inl ha)
    rw [leastW_nanl ha]
    clear ha
    go_enter Try.func25, Try.ntmps25
    go_wp2
    go_ret
    exact ⟨rfl, rfl⟩
theorem implMost_any (a b : Nat) (w : World) (la : a < 18446744073709551616) (lb : b < 18446744073709551616) :
    Calls Try.prog 26 #[.float .f64 a, .float .f64 b] w fun e w' => e = .returned (.float .f64 (mostW a b)) ∧ w' = w := by
  cases ha : isNan a
  · rw [mostW_less la lb ha]
    have o1 := order_self ha
    clear ha
    cases hl : lessB a b
    · rw [if_neg (by decide)]
      go_enter Try.func26, Try.ntmps26
      go_wp2_with (first
        | (go_at_call 51; refine (less_any _ _ _ (by assumption) (by assumption)).mono ?_; rintro e w2 ⟨rfl, rfl⟩)
        | go_in)
      go_ret
      exact ⟨rfl, rfl⟩
    · rw [if_pos rfl]
      go_enter Try.func26, Try.ntmps26
      go_wp2_with (first
        | (go_at_call 51; refine (less_any _ _ _ (by assumption) (by assumption)).mono ?_; rintro e w2 ⟨rfl, rfl⟩)
        | go_in)
      go_ret
      exact ⟨rfl, rfl⟩
  · have o1 := order_none (a := a) (b := a) (.inl ha)
    rw [mostW_nanl ha]
    clear ha
    go_enter Try.func26, Try.ntmps26
    go_wp2
    go_ret
    exact ⟨rfl, rfl⟩
theorem implRatio_any (a b : Nat) (w : World) :
    Calls Try.prog 30 #[.float .f64 a, .float .f64 b] w fun e w' => e = .returned (.float .f64 ((double.div a b).getD 0)) ∧ Below w.heap.size w w' := by
  cases h : double.div a b with
  | none =>
    have q := fun w => run_float_nan (P := Try.prog) w .quo 33 a b (.inr (.inr (.inr rfl))) h
    have o := fun w : World => order_none (a := nanAt w a b) (b := nanAt w a b) (.inl (nanAt_nan w a b))
    clear h
    go_enter Try.func30, Try.ntmps30
    go_wp2
    go_ret
    exact ⟨rfl, (Below.refl _ _).drew⟩
  | some r =>
    have q := fun w => run_float_arith (P := Try.prog) w .quo 33 .f64 a b r h
    have o := order_self (arith_ok (op := .quo) h)
    clear h
    go_enter Try.func30, Try.ntmps30
    go_wp2
    go_ret
    exact ⟨rfl, Below.refl _ _⟩
end Go.Proofs.Ytnffbnnkcdgckaa

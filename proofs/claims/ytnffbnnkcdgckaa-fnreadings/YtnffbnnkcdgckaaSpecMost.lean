/- What spec.Most answers: the greater word by the order's keys. -/
import Derived.Test.YtnffbnnkcdgckaaOrd
namespace Go.Proofs.Ytnffbnnkcdgckaa
open Go.ChangeShapes Go.WideShapes Go.ChangeAt Go.RowKit
open Ieee (Datum Format double)
set_option linter.unusedVariables false

/-- The greater of two words. -/
def mostW (a b : Nat) : Nat := if isNan a = true then b else if isNan b = true then a else if key b < key a ∨ (key a = key b ∧ negW a = false) then a else b
theorem mostW_nanl {a b : Nat} (h : isNan a = true) : mostW a b = b := by unfold mostW; rw [if_pos h]
theorem mostW_nanr {a b : Nat} (ha : isNan a = false) (h : isNan b = true) : mostW a b = a := by unfold mostW; rw [if_neg (by rw [ha]; simp), if_pos h]
theorem mostW_num {a b : Nat} (ha : isNan a = false) (hb : isNan b = false) : mostW a b = if key b < key a ∨ (key a = key b ∧ negW a = false) then a else b := by
  unfold mostW; rw [if_neg (by rw [ha]; simp), if_neg (by rw [hb]; simp)]
theorem mostW_lt {a b : Nat} (ha : isNan a = false) (hb : isNan b = false) (h : key a < key b) : mostW a b = b := by rw [mostW_num ha hb, if_neg (by omega)]
theorem mostW_gt {a b : Nat} (ha : isNan a = false) (hb : isNan b = false) (h : key b < key a) : mostW a b = a := by rw [mostW_num ha hb, if_pos (.inl h)]
theorem mostW_same (a : Nat) : mostW a a = a := by unfold mostW; split <;> (try split) <;> (try split) <;> rfl
theorem mostW_plus {b : Nat} (hb : isNan b = false) (hk : key b = 0) : mostW 0 b = 0 := by rw [mostW_num nan_zero hb, if_pos (.inr ⟨by rw [key_zero, hk], by decide⟩)]
theorem mostW_minus {b : Nat} (hb : isNan b = false) (hk : key b = 0) : mostW 9223372036854775808 b = b := by rw [mostW_num (by decide) hb, if_neg (by rw [hk]; decide)]

theorem mostW_lt64 {a b : Nat} (ha : a < 18446744073709551616) (hb : b < 18446744073709551616) : mostW a b < 18446744073709551616 := by unfold mostW; split <;> (try split) <;> (try split) <;> assumption

set_option maxHeartbeats 400000 in
theorem specMost_any (a b : Nat) (w : World) (la : a < 18446744073709551616) (lb : b < 18446744073709551616) :
    Calls Try.prog 29 #[.float .f64 a, .float .f64 b] w fun e w' => e = .returned (.float .f64 (mostW a b)) ∧ w' = w := by
  cases ha : isNan a
  · have o1 := order_self ha
    cases hb : isNan b
    · have o2 := order_self hb
      rcases Int.lt_trichotomy (key a) (key b) with hk | hk | hk
      · rw [mostW_lt ha hb hk]
        have o3 := order_lt ha hb hk
        clear hk
        go_enter Try.func29, Try.ntmps29
        go_wp2
        go_ret
        exact ⟨rfl, rfl⟩
      · have o3 := order_eq ha hb hk
        by_cases h0 : rung a = 0
        · have hz := h0
          have hkb : key b = 0 := by rw [← hk]; unfold key; rw [h0]; simp
          clear h0
          rcases nought_cases la hz with rfl | rfl
          · have q1 := run_quo_one (a := 0) (r := 9218868437227405312) (by decide)
            have o4 : FloatKind.f64.format.order 0 0 = some .eq := by decide
            have o5 : FloatKind.f64.format.order 9218868437227405312 0 = some .gt := by decide
            rw [mostW_plus hb hkb]
            clear hk hkb hz
            go_enter Try.func29, Try.ntmps29
            go_wp2
            go_ret
            exact ⟨rfl, rfl⟩
          · have q1 := run_quo_one (a := 9223372036854775808) (r := 18442240474082181120) (by decide)
            have o4 : FloatKind.f64.format.order 9223372036854775808 0 = some .eq := by decide
            have o5 : FloatKind.f64.format.order 18442240474082181120 0 = some .lt := by decide
            rw [mostW_minus hb hkb]
            clear hk hkb hz
            go_enter Try.func29, Try.ntmps29
            go_wp2
            go_ret
            exact ⟨rfl, rfl⟩
        · have he : a = b := by rcases key_inj la lb hk with h | h; exact h; exact absurd h.1 h0
          subst he
          rw [mostW_same]
          have o4 : FloatKind.f64.format.order a 0 = some .lt ∨ FloatKind.f64.format.order a 0 = some .gt := by
            have hk0 : key a ≠ 0 := by unfold key; split <;> omega
            rcases Int.lt_trichotomy (key a) 0 with h | h | h
            · exact .inl (order_lt ha nan_zero (by rw [key_zero]; exact h))
            · exact absurd h hk0
            · exact .inr (order_gt ha nan_zero (by rw [key_zero]; exact h))
          clear hk h0
          rcases o4 with o4 | o4
          · go_enter Try.func29, Try.ntmps29
            go_wp2
            go_ret
            exact ⟨rfl, rfl⟩
          · go_enter Try.func29, Try.ntmps29
            go_wp2
            go_ret
            exact ⟨rfl, rfl⟩
      · rw [mostW_gt ha hb hk]
        have o3 := order_gt ha hb hk
        clear hk
        go_enter Try.func29, Try.ntmps29
        go_wp2
        go_ret
        exact ⟨rfl, rfl⟩
    · have o2 := order_none (a := b) (b := b) (.inl hb)
      rw [mostW_nanr ha hb]
      go_enter Try.func29, Try.ntmps29
      go_wp2
      go_ret
      exact ⟨rfl, rfl⟩
  · have o1 := order_none (a := a) (b := a) (.inl ha)
    rw [mostW_nanl ha]
    go_enter Try.func29, Try.ntmps29
    go_wp2
    go_ret
    exact ⟨rfl, rfl⟩
end Go.Proofs.Ytnffbnnkcdgckaa

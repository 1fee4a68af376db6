/- What math.Signbit, math.IsNaN and impl.less answer, at every two words. -/
import Derived.Test.YtnffbnnkcdgckaiOrd
import Derived.Laws.Externs
namespace Go.Proofs.Ytnffbnnkcdgckai
open Go.ChangeShapes Go.WideShapes Go.ChangeAt Go.RowKit
open Ieee (Datum Format double)
set_option linter.unusedVariables false

theorem run_bits (a : Nat) (w : World) : (callFunc 15 #[.float .f64 a]).run Try.prog w = .ok (.value (.int .u64 a)) w := by
  rw [run_callFunc_extern (e := Extern.MathFloatBits.float64bits) Try.func15 (by kernel_rfl) (by kernel_rfl) (by kernel_rfl) (by kernel_rfl)]
  rfl
theorem negW_ge {a : Nat} (la : a < 18446744073709551616) : negW a = decide (9223372036854775808 ≤ a) := by
  unfold negW
  by_cases h : 9223372036854775808 ≤ a
  · rw [decide_eq_true h, show a / 9223372036854775808 % 2 = 1 by omega]; rfl
  · rw [decide_eq_false h, show a / 9223372036854775808 % 2 = 0 by omega]; rfl
theorem signbit_any (a : Nat) (w : World) (la : a < 18446744073709551616) :
    Calls Try.prog 14 #[.float .f64 a] w fun e w' => e = .returned (.bool (negW a)) ∧ w' = w := by
  rw [negW_ge la]
  have q := run_bits a
  by_cases h : 9223372036854775808 ≤ a
  · rw [decide_eq_true h]
    have hw : IntKind.i64.wrap (a : Int) = (a : Int) - 18446744073709551616 := by rw [IntKind.wrap_i64]; omega
    have hl : decide ((a : Int) - 18446744073709551616 < 0) = true := decide_eq_true (by omega)
    go_enter Try.func14, Try.ntmps14
    go_wp2
    go_ret
    exact ⟨ret_bool (by first | exact hl | rfl), rfl⟩
  · rw [decide_eq_false h]
    have hw : IntKind.i64.wrap (a : Int) = (a : Int) := by rw [IntKind.wrap_i64]; omega
    have hl : decide ((a : Int) < 0) = false := decide_eq_false (by omega)
    go_enter Try.func14, Try.ntmps14
    go_wp2
    go_ret
    exact ⟨ret_bool (by first | exact hl | rfl), rfl⟩
/-- The lesser one comes first; of noughts the one with a minus. -/
def lessB (a b : Nat) : Bool := !isNan a && !isNan b && (decide (key a < key b) || (decide (key a = key b) && negW a && !negW b))
theorem lessB_nan {a b : Nat} (h : isNan a = true ∨ isNan b = true) : lessB a b = false := by unfold lessB; rcases h with h | h <;> simp [h]
theorem lessB_lt {a b : Nat} (ha : isNan a = false) (hb : isNan b = false) (h : key a < key b) : lessB a b = true := by unfold lessB; simp [ha, hb, h]
theorem lessB_gt {a b : Nat} (ha : isNan a = false) (hb : isNan b = false) (h : key b < key a) : lessB a b = false := by
  unfold lessB; rw [decide_eq_false (by omega : ¬ key a < key b), decide_eq_false (by omega : ¬ key a = key b)]; simp
theorem lessB_eq {a b : Nat} (ha : isNan a = false) (hb : isNan b = false) (h : key a = key b) : lessB a b = (negW a && !negW b) := by
  unfold lessB; rw [ha, hb, decide_eq_false (by omega : ¬ key a < key b), decide_eq_true h]; simp
theorem less_any (a b : Nat) (w : World) (la : a < 18446744073709551616) (lb : b < 18446744073709551616) :
    Calls Try.prog 13 #[.float .f64 a, .float .f64 b] w fun e w' => e = .returned (.bool (lessB a b)) ∧ w' = w := by
  by_cases hn : isNan a = true ∨ isNan b = true
  · rw [lessB_nan hn]
    have o := order_none hn
    clear hn
    go_enter Try.func13, Try.ntmps13
    go_wp2
    go_ret
    exact ⟨rfl, rfl⟩
  · have ha : isNan a = false := by cases h : isNan a; rfl; exact absurd (.inl h) hn
    have hb : isNan b = false := by cases h : isNan b; rfl; exact absurd (.inr h) hn
    clear hn
    rcases Int.lt_trichotomy (key a) (key b) with hk | hk | hk
    · rw [lessB_lt ha hb hk]
      have o := order_lt ha hb hk
      clear hk
      go_enter Try.func13, Try.ntmps13
      go_wp2
      go_ret
      exact ⟨rfl, rfl⟩
    · rw [lessB_eq ha hb hk]
      have o := order_eq ha hb hk
      clear hk
      cases na : negW a <;> cases nb : negW b
      all_goals
        go_enter Try.func13, Try.ntmps13
        go_wp2_with (first
          | (go_at_call 14; refine (signbit_any _ _ (by assumption)).mono ?_; rintro e w2 ⟨rfl, rfl⟩)
          | go_in)
        go_ret
        exact ⟨rfl, rfl⟩
    · rw [lessB_gt ha hb hk]
      have o := order_gt ha hb hk
      clear hk
      go_enter Try.func13, Try.ntmps13
      go_wp2
      go_ret
      exact ⟨rfl, rfl⟩
end Go.Proofs.Ytnffbnnkcdgckai

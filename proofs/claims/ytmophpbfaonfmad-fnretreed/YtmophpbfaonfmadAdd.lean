/- What impl.Add and spec.Add answer: the sum, held at its bounds; no memory is touched. -/
import Derived.Test.YtmophpbfaonfmadRows
import Derived.WalkKit
import Derived.ProofKit
import Derived.OpenShut
import Derived.Test.YtmophpbfaonfmadMath
import Derived.Test.YtmophpbfaonfmadGrpB
namespace Go.Proofs.Ytmophpbfaonfmad
open Go.ChangeShapes Go.WideShapes Go.ChangeAt Go.RowKit
set_option maxRecDepth 100000
set_option linter.unusedVariables false

theorem implAdd_any (a b : Int) (w : World) (a0 : -9223372036854775808 ≤ a) (a1 : a ≤ 9223372036854775807) (b0 : -9223372036854775808 ≤ b) (b1 : b ≤ 9223372036854775807) :
    Calls Try.prog 154 #[.int .i64 a, .int .i64 b] w fun e w' => e = .returned (.int .i64 (satAdd a b)) ∧ w' = w := by
  by_cases hb : 0 < b
  · by_cases h : 9223372036854775807 - b < a
    · go_enter Try.func154, Try.ntmps154
      go_wp2
      go_ret
      exact ⟨ret_int (by unfold satAdd; rw [if_pos (by omega)]), rfl⟩
    · go_enter Try.func154, Try.ntmps154
      go_wp2
      go_ret
      exact ⟨ret_int (by unfold satAdd; rw [if_neg (by omega), if_neg (by omega)]), rfl⟩
  · by_cases hb' : b < 0
    · by_cases h : a < -9223372036854775808 - b
      · go_enter Try.func154, Try.ntmps154
        go_wp2
        go_ret
        exact ⟨ret_int (by unfold satAdd; rw [if_neg (by omega), if_pos (by omega)]), rfl⟩
      · go_enter Try.func154, Try.ntmps154
        go_wp2
        go_ret
        exact ⟨ret_int (by unfold satAdd; rw [if_neg (by omega), if_neg (by omega)]), rfl⟩
    · go_enter Try.func154, Try.ntmps154
      go_wp2
      go_ret
      exact ⟨ret_int (by unfold satAdd; rw [if_neg (by omega), if_neg (by omega)]), rfl⟩

theorem specAdd_any (a b : Int) (w : World) (a0 : -9223372036854775808 ≤ a) (a1 : a ≤ 9223372036854775807) (b0 : -9223372036854775808 ≤ b) (b1 : b ≤ 9223372036854775807) :
    Calls Try.prog 112 #[.int .i64 a, .int .i64 b] w fun e w' => e = .returned (.int .i64 (satAdd a b)) ∧ w' = w := by
  go_enter Try.func112, Try.ntmps112
  go_wp2
  all_goals
    go_ret
    exact ⟨ret_int (by unfold satAdd; simp only [wrap64] at *; split <;> (try split) <;> omega), rfl⟩
end Go.Proofs.Ytmophpbfaonfmad

/- What impl.Add and spec.Add answer: the sum, held at its bounds; no memory is touched. -/
import Derived.Test.YtmophpbfaonfmacRows
import Derived.WalkKit
import Derived.ProofKit
import Derived.OpenShut
import Derived.Test.YtmophpbfaonfmacMath
import Derived.Test.YtmophpbfaonfmacGrpB
namespace Go.Proofs.Ytmophpbfaonfmac
open Go.ChangeShapes Go.WideShapes Go.ChangeAt Go.RowKit
set_option maxRecDepth 100000
set_option linter.unusedVariables false

theorem implAdd_any (a b : Int) (w : World) (a0 : -9223372036854775808 ≤ a) (a1 : a ≤ 9223372036854775807) (b0 : -9223372036854775808 ≤ b) (b1 : b ≤ 9223372036854775807) :
    Calls Try.prog 133 #[.int .i64 a, .int .i64 b] w fun e w' => e = .returned (.int .i64 (satAdd a b)) ∧ w' = w := by
  by_cases hb : 0 < b
  · by_cases h : 9223372036854775807 - b < a
    · go_enter Try.func133, Try.ntmps133
      go_wp2
      go_ret
      exact ⟨ret_int (by unfold satAdd; rw [if_pos (by omega)]), rfl⟩
    · go_enter Try.func133, Try.ntmps133
      go_wp2
      go_ret
      exact ⟨ret_int (by unfold satAdd; rw [if_neg (by omega), if_neg (by omega)]), rfl⟩
  · by_cases hb' : b < 0
    · by_cases h : a < -9223372036854775808 - b
      · go_enter Try.func133, Try.ntmps133
        go_wp2
        go_ret
        exact ⟨ret_int (by unfold satAdd; rw [if_neg (by omega), if_pos (by omega)]), rfl⟩
      · go_enter Try.func133, Try.ntmps133
        go_wp2
        go_ret
        exact ⟨ret_int (by unfold satAdd; rw [if_neg (by omega), if_neg (by omega)]), rfl⟩
    · go_enter Try.func133, Try.ntmps133
      go_wp2
      go_ret
      exact ⟨ret_int (by unfold satAdd; rw [if_neg (by omega), if_neg (by omega)]), rfl⟩

theorem specAdd_any (a b : Int) (w : World) (a0 : -9223372036854775808 ≤ a) (a1 : a ≤ 9223372036854775807) (b0 : -9223372036854775808 ≤ b) (b1 : b ≤ 9223372036854775807) :
    Calls Try.prog 110 #[.int .i64 a, .int .i64 b] w fun e w' => e = .returned (.int .i64 (satAdd a b)) ∧ w' = w := by
  go_enter Try.func110, Try.ntmps110
  go_wp2
  all_goals
    go_ret
    exact ⟨ret_int (by unfold satAdd; simp only [wrap64] at *; split <;> (try split) <;> omega), rfl⟩
end Go.Proofs.Ytmophpbfaonfmac

/- Lists of Class: what was marked is held. -/
import Derived.Test.YtcepopboldnicalCls
namespace Go.Proofs.Ytcepopboldnical
open Go.ChangeShapes Go.WideShapes Go.ChangeAt Go.RowKit
set_option maxRecDepth 100000
set_option linter.unusedVariables false

set_option maxHeartbeats 2000000 in
theorem heldClassS_any {w : World} {g n : Nat} (cap : Nat) (k : Int) (f : QFill w g n (marks4 k n) n) (hn : n ≤ 1048576) (k0 : 0 ≤ k) (k1 : k ≤ 1000000000) :
    Calls Try.prog 52 #[.slice (some ⟨g, 0, none⟩) n cap, .int .i64 k] w fun e w' => e = .returned (.int .i64 (k + 4 * n)) ∧ w' = w := by
  go_enter Try.func52, Try.ntmps52
  go_wp2
  go_loop [1, 5] (fun s i => ∃ j : Nat, i = .int .i64 j ∧ j ≤ n ∧ s = .int .i64 (k + 4 * (j : Int))) (fun _ i => n - (intOf i).toNat)
  case atStart => exact ⟨0, rfl, by omega, by simp⟩
  case round =>
    obtain ⟨j, rfl, hj, rfl⟩ := hrel
    by_cases hlt : j < n
    · obtain ⟨c0, c1, c2, c3⟩ := f.got j (by rw [marks4_length]; exact hlt) hlt
      rw [marks4_get] at c0 c1 c2 c3
      simp only at c0 c1 c2 c3
      have hlt' : (j : Int) < (n : Int) := by omega
      obtain ⟨m, hm⟩ : ∃ m : Int, k + 4 * (j : Int) = m := ⟨_, rfl⟩
      have HM : Hid (k + 4 * (j : Int) = m) := hm
      have m0 : 0 ≤ m := by omega
      have m1 : m ≤ 2000000000 := by omega
      rw [hm] at c0 c1 c2 c3 ⊢
      rw [show m + 2 = m + 1 + 1 by omega] at c2
      rw [show m + 3 = m + 1 + 1 + 1 by omega] at c3
      clear hm
      go_wp2
      go_round
      case rel => exact ⟨j + 1, by go_num, by omega, by rw [show k + 4 * ((j + 1 : Nat) : Int) = m + 1 + 1 + 1 + 1 by have := HM.out; omega]⟩
      case measure => first | (simp [intOf]; done) | (simp [intOf]; omega)
    · have e : j = n := by omega
      subst e
      go_wp2
      go_ret
      exact ⟨rfl, rfl⟩
end Go.Proofs.Ytcepopboldnical

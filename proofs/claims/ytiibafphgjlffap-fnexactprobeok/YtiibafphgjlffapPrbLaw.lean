/- The laws' sizes, comparisons and marks of Probes. -/
import Derived.Test.YtiibafphgjlffapPrb
namespace Go.Proofs.Ytiibafphgjlffap
open Go.ChangeShapes Go.WideShapes Go.ChangeAt Go.RowKit
set_option maxRecDepth 100000
set_option linter.unusedVariables false
set_option linter.unusedSimpArgs false

set_option maxHeartbeats 4000000 in
theorem szProbe_any {sa cy sn tp sv mt ta : Int} (a : Option Addr) (n cap : Nat) (w : World) (hn : (n : Int) ≤ 9223372036854775807) : Calls Try.prog 21 #[.agg #[.int .i64 sa, .int .i64 cy, .int .i64 sn, .int .i64 tp, .int .i64 sv, .slice a n cap, .int .i64 mt, .int .i64 ta], .int .i64 1048576] w fun e w' => e = .returned (.int .i64 (if n ≤ 1048576 then 1048576 - (n : Int) else -1)) ∧ Below w.heap.size w w' := by
  by_cases h : n ≤ 1048576
  · rw [if_pos h]
    have h1 : ¬ (1048576 : Int) - (n : Int) < 0 := by omega
    go_enter Try.func21, Try.ntmps21
    go_wp2_with (first
      | (go_at_call 46; refine (szFilter_any _ _ _ _ hn).mono ?_; rintro e w2 ⟨rfl, hb2⟩; rw [if_pos h]; have hbw : Below w.heap.size w w2 := below_two (by go_grown) hb2))
    go_ret
    exact ⟨rfl, hbw⟩
  · rw [if_neg h]
    go_enter Try.func21, Try.ntmps21
    go_wp2_with (first
      | (go_at_call 46; refine (szFilter_any _ _ _ _ hn).mono ?_; rintro e w2 ⟨rfl, hb2⟩; rw [if_neg h]; have hbw : Below w.heap.size w w2 := below_two (by go_grown) hb2))
    go_ret
    exact ⟨rfl, hbw⟩
set_option maxHeartbeats 4000000 in
theorem eqProbe_same {sa cy sn tp sv mt ta : Int} {w : World} {lo lo' : Nat} {a a' : Option Addr} {n n' c c' : Nat} {xs : List (Int × Int)} (ha : FV w lo (.slice a n c) xs) (hb : FV w lo' (.slice a' n' c') xs) (hn : xs.length ≤ 4611686018427387904) : Calls Try.prog 25 #[.agg #[.int .i64 sa, .int .i64 cy, .int .i64 sn, .int .i64 tp, .int .i64 sv, .slice a n c, .int .i64 mt, .int .i64 ta], .agg #[.int .i64 sa, .int .i64 cy, .int .i64 sn, .int .i64 tp, .int .i64 sv, .slice a' n' c', .int .i64 mt, .int .i64 ta]] w fun e w' => e = .returned (.bool true) ∧ Below w.heap.size w w' := by
  have hd : decide (xs = xs) = true := decide_eq_true rfl
  go_enter Try.func25, Try.ntmps25
  go_wp2_with (first
    | (go_at_call 52; refine (eqF_any (ha.next (by go_grown)) (hb.next (by go_grown)) hn).mono ?_; rintro e w2 ⟨rfl, hb2⟩; rw [hd]; have hbw : Below w.heap.size w w2 := below_two (by go_grown) hb2; have kc := below_cells4 hb2; have zl := hb2.size; (try simp at zl)))
  go_ret
  exact ⟨rfl, hbw⟩
end Go.Proofs.Ytiibafphgjlffap

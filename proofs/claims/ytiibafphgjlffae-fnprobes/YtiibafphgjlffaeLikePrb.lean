/- likeProbe at Probes that are alike, and at unlike states. -/
import Derived.Test.YtiibafphgjlffaeLikeF
import Derived.Test.YtiibafphgjlffaePrbVar
namespace Go.Proofs.Ytiibafphgjlffae
open Go.ChangeShapes Go.WideShapes Go.ChangeAt Go.RowKit
set_option maxRecDepth 100000
set_option linter.unusedVariables false
set_option linter.unusedSimpArgs false

set_option maxHeartbeats 4000000 in
theorem likeProbe_same {sa cy sn tp sv mt ta : Int} {w : World} {lo lo' : Nat} {a a' : Option Addr} {n n' c c' : Nat} {ys : List (Int × Int)} (ha : FV w lo (.slice a n c) ys) (hb : FV w lo' (.slice a' n' c') ys) (hn : ys.length ≤ 4611686018427387904) : Calls Try.prog 43 #[.agg #[.int .i64 sa, .int .i64 cy, .int .i64 sn, .int .i64 tp, .int .i64 sv, .slice a n c, .int .i64 mt, .int .i64 ta], .agg #[.int .i64 sa, .int .i64 cy, .int .i64 sn, .int .i64 tp, .int .i64 sv, .slice a' n' c', .int .i64 mt, .int .i64 ta]] w fun e w' => e = .returned (.bool true) ∧ Below w.heap.size w w' := by
  go_enter Try.func43, Try.ntmps43
  go_wp2_with (first
    | (go_at_call 94; refine (likeF_same (ha.next (by go_grown)) (hb.next (by go_grown)) hn).mono ?_; rintro e w2 ⟨rfl, hb2⟩; have hbw : Below w.heap.size w w2 := below_two (by go_grown) hb2; have kc := below_cells4 hb2; have zl := hb2.size; (try simp at zl)))
  go_ret
  exact ⟨rfl, hbw⟩
set_option maxHeartbeats 4000000 in
theorem likeProbe_not {sa cy sn tp sv mt ta sa' cy' sn' tp' sv' mt' ta' : Int} {a a' : Option Addr} {n n' c c' : Nat} (w : World) (h : ¬ sa = sa') : Calls Try.prog 43 #[.agg #[.int .i64 sa, .int .i64 cy, .int .i64 sn, .int .i64 tp, .int .i64 sv, .slice a n c, .int .i64 mt, .int .i64 ta], .agg #[.int .i64 sa', .int .i64 cy', .int .i64 sn', .int .i64 tp', .int .i64 sv', .slice a' n' c', .int .i64 mt', .int .i64 ta']] w fun e w' => e = .returned (.bool false) ∧ Below w.heap.size w w' := by
  go_enter Try.func43, Try.ntmps43
  go_wp2
  go_ret
  exact ⟨rfl, by go_grown⟩
end Go.Proofs.Ytiibafphgjlffae

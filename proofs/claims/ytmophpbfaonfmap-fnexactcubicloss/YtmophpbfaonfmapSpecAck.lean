/- What spec.RenoAck answers. -/
import Derived.Test.YtmophpbfaonfmapLoss
import Derived.Test.YtmophpbfaonfmapAckMath
import Derived.Deep.LoopGhost
namespace Go.Proofs.Ytmophpbfaonfmap
open Go.ChangeShapes Go.WideShapes Go.ChangeAt Go.RowKit
set_option maxRecDepth 100000
set_option linter.unusedVariables false

def n10B (x : Int) : Bool := decide (1 ≤ x) && decide (x ≤ 1000000000)
theorem n10_num {x : Int} (h : n10B x = true) : 1 ≤ x ∧ x ≤ 1000000000 := by
  unfold n10B at h
  simp only [Bool.and_eq_true, decide_eq_true_eq] at h
  exact h
theorem sN_is {x : Int} {f : Bool} (h : n10B x = f) (w : World) : Calls Try.prog 29 #[.int .i64 x, .int .i64 1, .int .i64 1000000000] w fun e w' => e = .returned (.bool f) ∧ w' = w := by subst h; exact in_any 1 x 1000000000 w
theorem iN_is {x : Int} {f : Bool} (h : n10B x = f) (w : World) : Calls Try.prog 33 #[.int .i64 x, .int .i64 1, .int .i64 1000000000] w fun e w' => e = .returned (.bool f) ∧ w' = w := by subst h; exact iwithin_any 1 x 1000000000 w
end Go.Proofs.Ytmophpbfaonfmap

/- What spec's Claim and Free answer. -/
import Derived.Test.YtoeiheccmpjclaqSpecPlc2
namespace Go.Proofs.Ytoeiheccmpjclaq
open Go.ChangeShapes Go.WideShapes Go.ChangeAt Go.RowKit
set_option maxRecDepth 100000
set_option linter.unusedVariables false
set_option linter.unusedSimpArgs false

def AnsPT (w : World) (xs : List Int) (wd fl : Int) (f : Bool) (e : Ending) (w' : World) : Prop := ∃ a n c, e = .returned (.tuple #[.agg #[.int .i64 wd, .int .i64 fl, .slice a n c], .bool f]) ∧ IV w' w.heap.size (.slice a n c) xs ∧ Below w.heap.size w w'
theorem room_num {wd fl n : Int} {xs : List Int} (h : roomB wd fl n xs = true) : plB wd fl xs = true ∧ s10B n = true ∧ fl + n ≤ wd := by
  unfold roomB at h
  simp only [Bool.and_eq_true, decide_eq_true_eq] at h
  exact ⟨h.1.1, h.1.2, h.2⟩
def freeW (wd n : Int) (lost : Bool) : Int := if lost = true then max 3000 (wd / 2) else min 1000000000 (wd + n * 1500 / wd)
theorem inQ_num {lo x hi : Int} (h : inQ lo x hi = true) : lo ≤ x ∧ x ≤ hi := by
  unfold inQ at h
  simp only [Bool.and_eq_true, decide_eq_true_eq] at h
  exact h
end Go.Proofs.Ytoeiheccmpjclaq

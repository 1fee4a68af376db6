/- What spec's buckets answer: Fill, Take. -/
import Derived.Test.YtcepopboldnicalSpecBuck
namespace Go.Proofs.Ytcepopboldnical
open Go.ChangeShapes Go.WideShapes Go.ChangeAt Go.RowKit
set_option maxRecDepth 100000
set_option linter.unusedVariables false

def fillL (r u l t now : Int) : Int := if now ≤ t then l else min (1000000000 * u) (l + r * (now - t))
def fillT (t now : Int) : Int := if now ≤ t then t else now
theorem md_one {r d : Int} (hr : 0 ≤ r) (hd : 0 ≤ d) : mdOk r d 1 = decide (r * d ≤ 9223372036854775807) ∧ (mdOk r d 1 = true → mdQ r d 1 = r * d) := by
  have e : mdOk r d 1 = decide (r * d ≤ 9223372036854775807) := by
    unfold mdOk
    rw [Int.ediv_one]
    by_cases h : r * d ≤ 9223372036854775807
    · rw [decide_eq_true h, decide_eq_true ⟨hr, hd, by omega, h⟩]
    · rw [decide_eq_false h, decide_eq_false (fun k => h k.2.2.2)]
  refine ⟨e, fun h => ?_⟩
  unfold mdQ
  rw [if_pos h, Int.ediv_one]
/-- Added up and held at the bound. -/
theorem fill_yes {u l P : Int} (hu : 0 ≤ u ∧ u ≤ 1000000000) (hl : 0 ≤ l ∧ l ≤ 1000000000 * u) (h0 : 0 ≤ P) (hP : P ≤ 9223372036854775807) : min (1000000000 * u) (satAdd l P) = min (1000000000 * u) (l + P) := by
  unfold satAdd
  split
  · rw [Int.min_eq_left (by omega), Int.min_eq_left (by omega)]
  · rw [if_neg (by omega)]
theorem fill_no {u l P : Int} (hu : 0 ≤ u ∧ u ≤ 1000000000) (hl : 0 ≤ l ∧ l ≤ 1000000000 * u) (hP : 9223372036854775807 < P) : min (1000000000 * u) (satAdd l (1000000000 * u)) = min (1000000000 * u) (l + P) := by
  unfold satAdd
  rw [if_neg (by omega), if_neg (by omega), Int.min_eq_left (by omega), Int.min_eq_left (by omega)]
theorem fill_bounds {r u l t now : Int} (hu : 0 ≤ u ∧ u ≤ 1000000000) (hl : 0 ≤ l ∧ l ≤ 1000000000 * u) (hr : 0 ≤ r) : 0 ≤ fillL r u l t now ∧ fillL r u l t now ≤ 1000000000 * u := by
  unfold fillL
  split
  · exact hl
  · rename_i h
    have : 0 ≤ r * (now - t) := Int.mul_nonneg hr (by omega)
    exact ⟨by rw [Int.le_min]; omega, Int.min_le_left _ _⟩
end Go.Proofs.Ytcepopboldnical

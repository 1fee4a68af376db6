/- Timers: pairs of numbers in memory; the laws' copies, comparisons and marks of them. -/
import Derived.Test.YtdgefdjgpneanacGrpC
import Derived.Test.YtdgefdjgpneanacGrpE
import Derived.Test.YtdgefdjgpneanacFlat
namespace Go.Proofs.Ytdgefdjgpneanac
open Go.ChangeShapes Go.WideShapes Go.ChangeAt Go.RowKit
set_option maxRecDepth 100000
set_option linter.unusedVariables false

theorem info_tim : (Try.prog.info? 87).map (fun i => (i.zero, i.size, i.bytes)) = some (some (.agg #[.int .i64 0, .int .i64 0]), 2, 16) := by kernel_rfl
theorem own_tim {w : World} {base : Nat} {v : Value} {xs : List (Int × Int)} (h : w.ownsRow base 87 2 v xs.length (flat xs)) (hn : v ≠ .slice none 0 0) :
    ∃ g cap, v = .slice (some ⟨g, 0, none⟩) xs.length cap ∧ base ≤ g ∧ g < w.heap.size ∧ Fill w g xs.length xs xs.length ∧ xs.length ≤ cap := by
  rcases h.2 with ⟨e, _⟩ | ⟨g, cap, cur, rfl, hb, hg, hnc, _⟩
  · exact absurd e hn
  · refine ⟨g, cap, rfl, hb, (h.lt g rfl).2, ⟨fun j hj => ⟨?_, h.frozenAt j⟩, fun i hi _ => ?_⟩, hnc⟩
    · have hc := h.cellAt j hj
      obtain ⟨u, hu⟩ : ∃ u, (flat xs)[j]? = some u := ⟨_, List.getElem?_eq_getElem (by rw [flat_length]; exact hj)⟩
      obtain ⟨z, rfl⟩ := flat_mem (List.mem_of_getElem? hu)
      exact ⟨z, hc.trans hu⟩
    · obtain ⟨h0, h1⟩ := flat_get xs i hi
      exact ⟨(h.cellAt _ (by omega)).trans h0, (h.cellAt _ (by omega)).trans h1⟩
end Go.Proofs.Ytdgefdjgpneanac

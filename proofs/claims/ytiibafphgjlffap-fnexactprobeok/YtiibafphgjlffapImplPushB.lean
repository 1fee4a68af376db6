/- impl.Push's helpers: what goes from the front, the copy. -/
import Derived.Test.YtiibafphgjlffapImplPushA
import Derived.Lib.SliceRun
namespace Go.Proofs.Ytiibafphgjlffap
open Go.ChangeShapes Go.WideShapes Go.ChangeAt Go.RowKit
set_option maxRecDepth 100000
set_option linter.unusedVariables false
set_option linter.unusedSimpArgs false

def WfPost (w : World) (b off : Nat) (t : Int) (M : List (Int × Int)) (e : Ending) (w' : World) : Prop := ∃ d, e = .returned (.slice (some ⟨b, off + d * 2, none⟩) (M.length - d) (M.length - d)) ∧ d < M.length ∧ youngOf t M = M.drop d ∧ Below w.heap.size w w'
theorem smp_news {B : Nat} {w : World} {b off : Nat} {N : List (Int × Int)} (h : Smp B w (some ⟨b, off, none⟩) N) : ∀ j v, (flat N)[j]? = some v → w.cell? ((⟨b, off, none⟩ : Addr).add j) = some v := by
  intro j v hv
  have hj : j < (flat N).length := (List.getElem?_eq_some_iff.1 hv).1
  rw [flat_length] at hj
  have e : (⟨b, off, none⟩ : Addr).add j = ⟨b, off + j, none⟩ := by unfold Addr.add; split <;> simp_all
  rw [e]
  have hi : j / 2 < N.length := by omega
  obtain ⟨h0, h1⟩ := flat_get N (j / 2) hi
  obtain ⟨c0, c1⟩ := h.cells (Below.refl _ _) (j / 2) hi
  rcases Nat.mod_two_eq_zero_or_one j with h | h
  · rw [show j / 2 * 2 = j by omega, hv] at h0
    rw [h0, show off + j = off + j / 2 * 2 by omega]
    exact c0
  · rw [show j / 2 * 2 + 1 = j by omega, hv] at h1
    rw [h1, show off + j = off + j / 2 * 2 + 1 by omega]
    exact c1
def ClPost (w : World) (N : List (Int × Int)) (e : Ending) (w' : World) : Prop := ∃ g cap, e = .returned (.slice (some ⟨g, 0, none⟩) N.length cap) ∧ w.heap.size ≤ g ∧ g < w'.heap.size ∧ Fill w' g N.length N N.length ∧ N.length ≤ cap ∧ Below w.heap.size w w'
end Go.Proofs.Ytiibafphgjlffap

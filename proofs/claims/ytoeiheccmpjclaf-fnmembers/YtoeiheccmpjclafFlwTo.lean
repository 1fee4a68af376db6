/- The laws' copies of flows and Turns. -/
import Derived.Test.YtoeiheccmpjclafFlwLaw
namespace Go.Proofs.Ytoeiheccmpjclaf
open Go.ChangeShapes Go.WideShapes Go.ChangeAt Go.RowKit
set_option maxRecDepth 100000
set_option linter.unusedVariables false
set_option linter.unusedSimpArgs false

theorem cells_three {w : World} {g : Nat} {a b c : Value} (h0 : w.cell? ⟨g, 0, none⟩ = some a) (h1 : w.cell? ⟨g, 1, none⟩ = some b) (h2 : w.cell? ⟨g, 2, none⟩ = some c) : ∀ j v, [a, b, c][j]? = some v → w.cell? ⟨g, j, none⟩ = some v := by
  intro j v hv
  match j, hv with
  | 0, hv => obtain rfl : a = v := by simpa using hv
             exact h0
  | 1, hv => obtain rfl : b = v := by simpa using hv
             exact h1
  | 2, hv => obtain rfl : c = v := by simpa using hv
             exact h2
theorem put3_zero {w : World} {g : Nat} (a b c : Value) {z0 z1 z2 : Value} (h0 : w.cell? ⟨g, 0, none⟩ = some z0) (h1 : w.cell? ⟨g, 1, none⟩ = some z1) (h2 : w.cell? ⟨g, 2, none⟩ = some z2) :
    ∀ j v, [a, b, c][j]? = some v → (((w.setCell ⟨g, 0, none⟩ a).setCell ⟨g, 1, none⟩ b).setCell ⟨g, 2, none⟩ c).cell? ⟨g, j, none⟩ = some v := by
  have h := put3_same (o := 0) a b c h0 h1 h2
  exact cells_three h.1 h.2.1 h.2.2
theorem IFill.far {w : World} {g n k : Nat} {xs : List Int} (f : IFill w g n xs k) {p : Addr} (v : Value) (h : p.block ≠ g) : IFill (w.setCell p v) g n xs k where
  any := fun j hj => ⟨by obtain ⟨z, hz⟩ := (f.any j hj).1; exact ⟨z, (set_far (by exact h)).trans hz⟩, by simpa using (f.any j hj).2⟩
  got := fun i hi hk => (set_far (by exact h)).trans (f.got i hi hk)
theorem el_at {g o n c b : Nat} (h : elB (.slice (some ⟨g, o, none⟩) n c) = some b) : b = g := by
  cases n with
  | zero => cases h
  | succ n => exact (Option.some.inj h).symm
end Go.Proofs.Ytoeiheccmpjclaf

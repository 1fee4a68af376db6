/- What impl.LendOk answers. -/
import Derived.Test.YtcepopboldnicamImplRight
namespace Go.Proofs.Ytcepopboldnicam
open Go.ChangeShapes Go.WideShapes Go.ChangeAt Go.RowKit
set_option maxRecDepth 100000
set_option linter.unusedVariables false
set_option linter.unusedSimpArgs false

theorem done_kept {w w3 : World} (h : Below (w.alloc (.cells #[.bool false] 4)).heap.size (w.alloc (.cells #[.bool false] 4)) w3) : w3.cell? ⟨w.heap.size, 0, none⟩ = some (.bool false) ∧ w3.frozen? ⟨w.heap.size, 0, none⟩ = false :=
  ⟨(below_cells h _ _ (by simp)).trans (by go_simp), (below_frozens h _ _ (by simp)).trans (by go_simp)⟩
theorem att_yes {K : Nat} {caps : Array Value} (w : World) (hent : ∀ args w, (callFunc K args).run Try.prog w = .ok (.enter K args) w)
    (hk : Calls Try.prog K caps (w.alloc (.cells #[.bool false] 4)) fun e w' => e = .returned (.tuple #[]) ∧ Below (w.alloc (.cells #[.bool false] 4)).heap.size (w.alloc (.cells #[.bool false] 4)) w') :
    Calls Try.prog 41 #[.func (.func K) #[] caps] w fun e w' => e = .returned (.bool true) ∧ Below w.heap.size w w' := by
  refine (attempt_yes w hent (R := fun w' => Below (w.alloc (.cells #[.bool false] 4)).heap.size (w.alloc (.cells #[.bool false] 4)) w') (hk.mono fun e w' h => ⟨h.1, h.2, done_kept h.2⟩)).mono ?_
  rintro e w' ⟨rfl, W, hW, rfl⟩
  exact ⟨rfl, ((below_two (new_below _ _) hW).setCell (by simp) _).setCell (by simp) _⟩
theorem att_no {K : Nat} {caps : Array Value} (w : World) (hent : ∀ args w, (callFunc K args).run Try.prog w = .ok (.enter K args) w)
    (hk : Calls Try.prog K caps (w.alloc (.cells #[.bool false] 4)) fun e w' => e = gaveUp ∧ Below (w.alloc (.cells #[.bool false] 4)).heap.size (w.alloc (.cells #[.bool false] 4)) w') :
    Calls Try.prog 41 #[.func (.func K) #[] caps] w fun e w' => e = .returned (.bool false) ∧ Below w.heap.size w w' := by
  refine (attempt_no w hent (R := fun w' => Below (w.alloc (.cells #[.bool false] 4)).heap.size (w.alloc (.cells #[.bool false] 4)) w') (hk.mono fun e w' h => ⟨h.1, h.2, done_kept h.2⟩)).mono ?_
  rintro e w' ⟨rfl, W, hW, rfl⟩
  exact ⟨rfl, (below_two (new_below _ _) hW).setCell (by simp) _⟩
end Go.Proofs.Ytcepopboldnicam

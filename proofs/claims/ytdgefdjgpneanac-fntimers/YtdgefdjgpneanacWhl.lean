/- Wheels: a number and a list of timers. How one that came in is opened; the laws' copies, comparisons and marks. -/
import Derived.Test.YtdgefdjgpneanacTim
import Derived.Test.YtdgefdjgpneanacGrpC
namespace Go.Proofs.Ytdgefdjgpneanac
open Go.ChangeShapes Go.WideShapes Go.ChangeAt Go.RowKit
set_option maxRecDepth 100000
set_option linter.unusedVariables false

theorem cells_int : Try.prog.cellsOf 2 = 1 := by kernel_rfl
theorem set_two {w : World} {g : Nat} {u0 u1 : Value} (a b : Value) (h0 : w.cell? ⟨g, 0, none⟩ = some u0) (h1 : w.cell? ⟨g, 1, none⟩ = some u1) :
    ∀ j v, [a, b][j]? = some v → ((w.setCell ⟨g, 0, none⟩ a).setCell ⟨g, 1, none⟩ b).cell? ⟨g, j, none⟩ = some v := by
  have other : ∀ (x : World) (i k : Nat) (v : Value), i ≠ k → (x.setCell ⟨g, i, none⟩ v).cell? ⟨g, k, none⟩ = x.cell? ⟨g, k, none⟩ := fun x i k v h => World.cell?_setCell_other _ _ _ _ (fun e => h (by injection e with _ e _))
  exact cells_two ((other _ 1 0 _ (by decide)).trans (set_same _ h0)) (set_same _ ((other _ 0 1 _ (by decide)).trans h1))
theorem fw_nil (w : World) (a : Option Addr) : Smp w.heap.size w a [] := fun i h => by cases h
end Go.Proofs.Ytdgefdjgpneanac

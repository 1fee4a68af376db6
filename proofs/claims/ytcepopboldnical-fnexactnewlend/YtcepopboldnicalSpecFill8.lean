/- What spec.l7Fill answers. -/
import Derived.Test.YtcepopboldnicalSpecFill7
import Derived.Deep.DeepCutAuto
namespace Go.Proofs.Ytcepopboldnical
open Go.ChangeShapes Go.WideShapes Go.ChangeAt Go.RowKit
set_option maxRecDepth 100000
set_option linter.unusedVariables false
set_option linter.unusedSimpArgs false

theorem fl_fin {w W : World} {b2 : Nat} {sT sO sP : Value} {gT cT gO cO gP cP : Nat} {T X Y : List Q4} (d : FlSt w W b2 sT sO sP gT cT gO cO gP cP T X Y) {a b c : Value} :
    CpPost w T X Y (.returned (lendV (some ⟨gT, 0, none⟩) T.length cT (some ⟨gO, 0, none⟩) X.length cO (some ⟨gP, 0, none⟩) Y.length cP)) (((W.setCell ⟨w.heap.size + 1, 0, none⟩ a).setCell ⟨w.heap.size + 1, 1, none⟩ b).setCell ⟨w.heap.size + 1, 2, none⟩ c) :=
  ⟨gT, cT, gO, cO, gP, cP, rfl, row_lowC (row_set (row_set (row_set d.rT (by omega)) (by omega)) (by omega)) (by omega), row_lowC (row_set (row_set (row_set d.rO (by omega)) (by omega)) (by omega)) (by omega), row_lowC (row_set (row_set (row_set d.rP (by omega)) (by omega)) (by omega)) (by omega),
    d.ap, ((d.kept.hb.setCell (by simp) _).setCell (by simp) _).setCell (by simp) _⟩
end Go.Proofs.Ytcepopboldnical

/- What can be read of an Engine that is owned; sizes of its lists. -/
import Derived.Test.YtibfclfidaofkasEngOwn
import Derived.Test.YtibfclfidaofkasGrpW
import Derived.Test.YtibfclfidaofkasPls
import Derived.Test.YtibfclfidaofkasGrpAE
namespace Go.Proofs.Ytibfclfidaofkas
open Go.ChangeShapes Go.WideShapes Go.ChangeAt Go.RowKit
set_option maxRecDepth 100000
set_option linter.unusedVariables false
set_option linter.unusedSimpArgs false

theorem eng_read {w : World} {lo hi nT cT nO cO nP cP nL cL nK cK : Nat} {aT aO aP aL aK : Option Addr} {T O P : List Q4} {L : List F8} {K : List Kn} (h : Eng w lo hi (.slice aT nT cT) (.slice aO nO cO) (.slice aP nP cP) (.slice aL nL cL) (.slice aK nK cK) T O P L K) :
    Quad w.heap.size w aT T ∧ Quad w.heap.size w aO O ∧ Quad w.heap.size w aP P ∧ Fls w.heap.size w aL L ∧ Kls w.heap.size w aK K := by
  obtain ⟨ll, lh, pl, ph, kl, kh, _, _, e⟩ := h
  exact ⟨(e.l.t.quad).2, (e.l.o.quad).2, (e.l.p.quad).2, (e.p.fls).2, (e.k.kls).2⟩
theorem sumL_mem {L : List F8} {f : F8} (h : f ∈ L) : f.2.2.length ≤ sumL L L.length := by
  obtain ⟨i, hi, rfl⟩ := List.mem_iff_getElem.1 h
  have h1 := sumL_next hi
  have h2 := sumL_mono L (show i + 1 ≤ L.length by omega)
  omega
theorem sumK_mem {K : List Kn} {c : Kn} (h : c ∈ K) : c.xs.length ≤ sumK K K.length := by
  obtain ⟨i, hi, rfl⟩ := List.mem_iff_getElem.1 h
  have h1 := sumK_next hi
  have h2 := sumK_mono K (show i + 1 ≤ K.length by omega)
  omega
end Go.Proofs.Ytibfclfidaofkas

/- Two Lends of the same lists are the same. -/
import Derived.Test.YtcepopboldnicalLendW
namespace Go.Proofs.Ytcepopboldnical
open Go.ChangeShapes Go.WideShapes Go.ChangeAt Go.RowKit
set_option maxRecDepth 100000
set_option linter.unusedVariables false

theorem eqLV {w : World} {lo lo' : Nat} {a1 a2 a3 b1 b2 b3 : Option Addr} {n1 n2 n3 c1 c2 c3 m1 m2 m3 d1 d2 d3 : Nat} {T O P : List Q4} (h : LV w lo (.slice a1 n1 c1) (.slice a2 n2 c2) (.slice a3 n3 c3) T O P) (h' : LV w lo' (.slice b1 m1 d1) (.slice b2 m2 d2) (.slice b3 m3 d3) T O P) (nT : T.length ≤ 1048576) (nO : O.length ≤ 1048576) (nP : P.length ≤ 1048576) :
    Calls Try.prog 26 #[lendV a1 n1 c1 a2 n2 c2 a3 n3 c3, lendV b1 m1 d1 b2 m2 d2 b3 m3 d3] w fun e w' => e = .returned (.bool true) ∧ Below w.heap.size w w' := by
  obtain ⟨rfl, q1⟩ := h.t.quad
  obtain ⟨rfl, q2⟩ := h.o.quad
  obtain ⟨rfl, q3⟩ := h.p.quad
  obtain ⟨rfl, r1⟩ := h'.t.quad
  obtain ⟨rfl, r2⟩ := h'.o.quad
  obtain ⟨rfl, r3⟩ := h'.p.quad
  refine (eqLend_any c1 c2 c3 d1 d2 d3 q1 q2 q3 r1 r2 r3 (by omega) (by omega) (by omega)).mono ?_
  rintro e w' ⟨rfl, hb⟩
  rw [decide_eq_true (rfl : T = T), decide_eq_true (rfl : O = O), decide_eq_true (rfl : P = P)]
  exact ⟨rfl, hb⟩
end Go.Proofs.Ytcepopboldnical

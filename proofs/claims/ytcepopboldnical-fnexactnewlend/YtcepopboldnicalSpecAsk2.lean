/- What spec.Ask answers. -/
import Derived.Test.YtcepopboldnicalSpecAsk
import Derived.Test.YtcepopboldnicalSpecTold
import Derived.Test.YtcepopboldnicalSpecFill8
import Derived.Test.YtcepopboldnicalSpecUnder
namespace Go.Proofs.Ytcepopboldnical
open Go.ChangeShapes Go.WideShapes Go.ChangeAt Go.RowKit
set_option maxRecDepth 100000
set_option linter.unusedVariables false
set_option linter.unusedSimpArgs false

theorem own_quadC {w : World} {base : Nat} {a : Option Addr} {c : Nat} {t : TypeId} {T : List Q4} (h : w.ownsRow base t 4 (.slice a T.length c) T.length (flatQ T)) : Quad w.heap.size w a T := (own_qv h).quad.2
theorem iv_ismp {w : World} {lo n c : Nat} {a : Option Addr} {xs : List Int} (h : IV w lo (.slice a n c) xs) : ISmp w.heap.size w a xs := by
  obtain ⟨a', c', e, k⟩ := h.smp
  injection e with e1 e2 e3
  subst e1
  exact k
/-- What is asked of a Lend that is right. -/
structure Told (T O P : List Q4) (leaf now n : Int) : Prop where
  lend : IsLend T O P
  l0 : 0 ≤ leaf
  l1 : leaf < T.length
  isLeaf : leafB T leaf = true
  isTime : timeB now = true
  isLate : atOf O ≤ now
  isSeg : segB n = true
theorem told_of {T O P : List Q4} {leaf now n : Int} (h : toldB T O P leaf now n = true) : Told T O P leaf now n := by
  unfold toldB at h
  simp only [Bool.and_eq_true, decide_eq_true_eq] at h
  exact ⟨lend_of h.1.1.1.1.1, h.1.1.1.1.2.1, by have := h.1.1.1.1.2.2; omega, h.1.1.1.2, h.1.1.2, h.1.2, h.2⟩
def whoOf (T O P : List Q4) (leaf now n : Int) : Int := askOf (fills now O) (fills now P) n (pathOf T leaf)
def askAns (T O P : List Q4) (leaf now n : Int) : Int := if toldB T O P leaf now n = true then (match (pathOf T leaf)[(whoOf T O P leaf now n).toNat]? with | some c => if whoOf T O P leaf now n < 0 then -1 else c | none => -1) else -2
theorem who_range (T O P : List Q4) (leaf now n : Int) : whoOf T O P leaf now n = -1 ∨ (0 ≤ whoOf T O P leaf now n ∧ whoOf T O P leaf now n < (pathOf T leaf).length) := ask_bounds _ _ _ _
theorem ask_no {T O P : List Q4} {leaf now n : Int} (h : toldB T O P leaf now n = true) (hw : whoOf T O P leaf now n = -1) : askAns T O P leaf now n = -1 := by
  unfold askAns
  rw [if_pos h, hw]
  cases (pathOf T leaf)[(-1 : Int).toNat]? with
  | none => rfl
  | some c => rfl
theorem ask_yes {T O P : List Q4} {leaf now n : Int} {k : Nat} (h : toldB T O P leaf now n = true) (hw : whoOf T O P leaf now n = k) (hk : k < (pathOf T leaf).length) : askAns T O P leaf now n = (pathOf T leaf)[k] := by
  unfold askAns
  rw [if_pos h, hw, Int.toNat_natCast, List.getElem?_eq_getElem hk]
  simp only
  rw [if_neg (by omega)]
end Go.Proofs.Ytcepopboldnical

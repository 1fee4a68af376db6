/- Plain facts on floats of 64 bits: what an operation answers is a number or an infinity, or no number at all; exact results. No program in sight. -/
import Derived.Test.YtnffbnnkcdgckabFlt
namespace Go.Proofs.Ytnffbnnkcdgckab
open Go.RowKit
open Ieee (Datum Format double)

theorem rung_word (s : Bool) (r : Nat) (h : r < 9223372036854775808) : rung (double.word s r) = r ∧ negW (double.word s r) = s := by
  have e1 : double.signWeight = 9223372036854775808 := by decide
  unfold Format.word rung negW
  rw [e1]
  cases s
  · simp only [Bool.false_eq_true, if_false]
    exact ⟨by omega, by simp; omega⟩
  · simp only [if_true]
    exact ⟨by omega, by simp; omega⟩
theorem nearest_le (s : Bool) (m : Nat) (i : Int) : rung (double.nearest s m i) ≤ 9218868437227405312 ∧ negW (double.nearest s m i) = s := by
  have e3 : double.infRung = 9218868437227405312 := by decide
  unfold Format.nearest
  split
  · have := rung_word s 0 (by decide); exact ⟨by omega, this.2⟩
  · dsimp only
    rw [e3]
    generalize (max (i + (m.log2 : Int) - (double.fractionBits : Int)) double.leastPlace - double.leastPlace).toNat * double.binade + _ = X
    have := rung_word s (min X 9218868437227405312) (by omega)
    exact ⟨by omega, this.2⟩
theorem write_ok {d : Datum} (h : d.isNaN = false) : isNan (double.write d) = false := by
  have e3 : double.infRung = 9218868437227405312 := by decide
  unfold isNan
  refine decide_eq_false ?_
  cases d with
  | number s m i => have := (nearest_le s m i).1; show ¬ _ < rung (double.nearest s m i); omega
  | infinity s => show ¬ _ < rung (double.word s double.infRung); rw [e3, (rung_word s _ (by decide)).1]; omega
  | nan s f => cases h
theorem sum_ok {c d e : Datum} (h : Datum.sum c d = some e) : e.isNaN = false := by
  cases c <;> cases d <;> simp only [Datum.sum] at h <;> first | (cases h; done) | (cases h; rfl) | (split at h <;> first | (cases h; done) | (cases h; rfl))
theorem product_ok {c d e : Datum} (h : Datum.product c d = some e) : e.isNaN = false := by
  cases c <;> cases d <;> simp only [Datum.product] at h <;> first | (cases h; done) | (cases h; rfl) | (split at h <;> first | (cases h; done) | (cases h; rfl))
theorem quotient_ok {n : Nat} {c d e : Datum} (h : Datum.quotient n c d = some e) : e.isNaN = false := by
  cases c <;> cases d <;> simp only [Datum.quotient] at h <;> first | (cases h; done) | (cases h; rfl) | (split at h <;> first | (cases h; done) | (cases h; rfl) | (split at h <;> first | (cases h; done) | (cases h; rfl)))
theorem arith_ok {op : BinOp} {x y r : Nat} (h : floatBits op .f64 x y = some r) : isNan r = false := by
  unfold floatBits at h
  have map : ∀ d : Option Datum, (∀ e, d = some e → e.isNaN = false) → d.map double.write = some r → isNan r = false := by
    intro d hd hr
    cases d with
    | none => cases hr
    | some e => cases hr; exact write_ok (hd e rfl)
  split at h
  · exact map _ (fun _ => sum_ok) h
  · exact map _ (fun _ => sum_ok) h
  · exact map _ (fun _ => product_ok) h
  · exact map _ (fun _ => quotient_ok) h
  · cases h

/-- The bits of a result that is no number: the tape's answer. -/
def nanAt (w : World) (x y : Nat) : Nat := Question.cut (.nanBits .f64 x y) (w.tape w.drawn (.nanBits .f64 x y))
theorem nanAt_nan (w : World) (x y : Nat) : isNan (nanAt w x y) = true := by
  unfold nanAt isNan rung
  show decide (9218868437227405312 < ((w.tape w.drawn (.nanBits .f64 x y)) % 2 * 2 ^ 63 + 0x7ff0000000000000 + 1 + (w.tape w.drawn (.nanBits .f64 x y)) / 2 % (2 ^ 52 - 1)) % 9223372036854775808) = true
  refine decide_eq_true ?_
  generalize w.tape w.drawn (.nanBits .f64 x y) = T
  have h1 : T / 2 % (2 ^ 52 - 1) < 4503599627370495 := Nat.mod_lt _ (by decide)
  generalize T / 2 % (2 ^ 52 - 1) = Q at *
  rcases Nat.mod_two_eq_zero_or_one T with h | h <;> rw [h] <;> omega
theorem nanAt_lt (w : World) (x y : Nat) : nanAt w x y < 18446744073709551616 := by
  unfold nanAt
  show (w.tape w.drawn (.nanBits .f64 x y)) % 2 * 2 ^ 63 + 0x7ff0000000000000 + 1 + (w.tape w.drawn (.nanBits .f64 x y)) / 2 % (2 ^ 52 - 1) < _
  omega
theorem run_float_nan {P : Program} (w : World) (op : BinOp) (t : TypeId) (x y : Nat) (hop : op = .add ∨ op = .sub ∨ op = .mul ∨ op = .quo) (h : floatBits op .f64 x y = none) :
    (binOp op t (.float .f64 x) (.float .f64 y)).run P w = .ok (.float .f64 (nanAt w x y)) w.drew := by
  rcases hop with rfl | rfl | rfl | rfl <;> (simp only [floatBits] at h; simp [binOp, Op.floatArith, h, Question.forced]; rfl)
end Go.Proofs.Ytnffbnnkcdgckab

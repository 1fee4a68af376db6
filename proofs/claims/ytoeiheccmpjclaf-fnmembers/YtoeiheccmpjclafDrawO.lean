/- Rows and cells while a cursor turns. -/
import Derived.Test.YtoeiheccmpjclafGrpC
namespace Go.Proofs.Ytoeiheccmpjclaf
open Go.ChangeShapes Go.WideShapes Go.ChangeAt Go.RowKit
set_option maxRecDepth 100000
set_option linter.unusedVariables false

theorem row_only {w w' : World} {b base : Nat} {e : TypeId} {s n : Nat} {u : Value} {xs : List Value} (h : w.ownsRow base e s u n xs) (o : Only b w w') (hb : b < base) : w'.ownsRow base e s u n xs :=
  h.kept (row := some b) ⟨o.os, o.tape, o.output, o.size, fun k hk hn => o.block k hk (fun e => hn (by rw [e]))⟩ (Or.inr (fun e => by have := (h.lt _ e).1; omega))
theorem only_cw {b : Nat} {w w' : World} (h : Only b w w') : ∀ k o : Nat, k < w.heap.size → k ≠ b → w'.cell? ⟨k, o, none⟩ = w.cell? ⟨k, o, none⟩ := fun k o h1 h2 => h.cell (by exact h1) (by exact h2)
theorem only_fw {b : Nat} {w w' : World} (h : Only b w w') : ∀ k o : Nat, k < w.heap.size → k ≠ b → w'.frozen? ⟨k, o, none⟩ = w.frozen? ⟨k, o, none⟩ := fun k o h1 h2 => h.frozen (by exact h1) (by exact h2)
theorem Cur.under {B : Nat} {a0 : Option Addr} {len cap b V : Nat} {w w' : World} (c : Cur B a0 len cap b w) (h : Below V w w') (hb : b < V) : Cur B a0 len cap b w' where
  small := c.small
  lo := c.lo
  hi := Nat.lt_of_lt_of_le c.hi h.size
  val := by
    obtain ⟨i, v, h0, h1, h2, h3⟩ := c.val
    exact ⟨i, v, (h.cell (by exact hb)).trans h0, (h.cell (by exact hb)).trans h1, (h.cell (by exact hb)).trans h2, h3⟩
  fr := fun j => (h.frozen (by exact hb)).trans (c.fr j)
  row := fun i hi => by
    obtain ⟨xb, xo, z, e, hx, hc, hz⟩ := c.row i hi
    have := c.lo
    exact ⟨xb, xo, z, e, hx, (h.cell (by show xb < V; omega)).trans hc, hz⟩
end Go.Proofs.Ytoeiheccmpjclaf

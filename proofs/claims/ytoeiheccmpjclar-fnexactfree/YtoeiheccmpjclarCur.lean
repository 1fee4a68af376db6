/- The cursor of a draw: what its functions answer, and that they turn its own block alone. -/
import Derived.Test.YtoeiheccmpjclarRows
import Derived.Test.YtoeiheccmpjclarBits
import Derived.Deep.QuietTactic
import Derived.BigQuiet
import Derived.Outline
import Derived.LoopN
import Derived.Handy
import Derived.WalkSmall
namespace Go.Proofs.Ytoeiheccmpjclar
open Go.ChangeShapes Go.WideShapes Go.ChangeAt Go.RowKit
set_option maxRecDepth 100000
set_option linter.unusedVariables false

/-- Of all old blocks at most block b has turned. -/
structure Only (b : Nat) (w w' : World) : Prop where
  os : w'.os = w.os
  tape : w'.tape = w.tape
  output : w'.output = w.output
  size : w.heap.size ≤ w'.heap.size
  block : ∀ k, k < w.heap.size → k ≠ b → w'.heap[k]? = w.heap[k]?

theorem Only.refl (b : Nat) (w : World) : Only b w w := ⟨rfl, rfl, rfl, Nat.le_refl _, fun _ _ _ => rfl⟩
theorem Only.trans {b : Nat} {u v w : World} (h : Only b u v) (k : Only b v w) : Only b u w :=
  ⟨k.os.trans h.os, k.tape.trans h.tape, k.output.trans h.output, Nat.le_trans h.size k.size, fun i hi hb => (k.block i (Nat.lt_of_lt_of_le hi h.size) hb).trans (h.block i hi hb)⟩
theorem Only.of_below {b : Nat} {w w' : World} (h : Below w.heap.size w w') : Only b w w' := ⟨h.os, h.tape, h.output, h.size, fun k hk _ => h.block k hk⟩
theorem Only.below {b B : Nat} {w w' : World} (h : Only b w w') (hb : B ≤ b) (hB : B ≤ w.heap.size) : Below B w w' :=
  ⟨h.os, h.tape, h.output, h.size, fun k hk => h.block k (by omega) (by omega)⟩
theorem Only.drewN {b : Nat} {w w' : World} (h : Only b w w') (n : Nat) : Only b w (w'.drewN n) := ⟨h.os, h.tape, h.output, h.size, h.block⟩
theorem Only.setCell {b : Nat} {w w' : World} (h : Only b w w') {p : Addr} (hp : p.block = b) (u : Value) : Only b w (w'.setCell p u) := by
  have hs : w'.heap.size = (w'.setCell p u).heap.size := by simp
  have k := (Below.refl b w').setCell (p := p) (by omega) u
  refine ⟨k.os.trans h.os, k.tape.trans h.tape, k.output.trans h.output, by rw [← hs]; exact h.size, fun i hi hb => ?_⟩
  rw [Below.heap_setCell _ _ _ _ (by omega)]; exact h.block i hi hb
theorem Only.cell {b : Nat} {w w' : World} (h : Only b w w') {p : Addr} (hp : p.block < w.heap.size) (hb : p.block ≠ b) : w'.cell? p = w.cell? p := World.cell?_of_block (w := w) (h.block p.block hp hb)
theorem Only.frozen {b : Nat} {w w' : World} (h : Only b w w') {p : Addr} (hp : p.block < w.heap.size) (hb : p.block ≠ b) : w'.frozen? p = w.frozen? p := World.frozen?_of_block (w := w) (h.block p.block hp hb)

/-- Block b holds a cursor over the row of len bytes at a0, which lies below block B. -/
structure Cur (B : Nat) (a0 : Option Addr) (len cap b : Nat) (w : World) : Prop where
  small : len ≤ 4096
  lo : B ≤ b
  hi : b < w.heap.size
  val : ∃ i : Nat, ∃ h : Int, w.cell? ⟨b, 0, none⟩ = some (.slice a0 len cap) ∧ w.cell? ⟨b, 1, none⟩ = some (.int .i64 i) ∧ w.cell? ⟨b, 2, none⟩ = some (.int .i64 h) ∧ i ≤ len
  fr : ∀ j, w.frozen? ⟨b, j, none⟩ = false
  row : ∀ i : Nat, i < len → ∃ (xb xo : Nat) (z : Int), a0 = some ⟨xb, xo, none⟩ ∧ xb < B ∧ w.cell? ⟨xb, xo + i, none⟩ = some (.int .u8 z) ∧ 0 ≤ z ∧ z ≤ 255

theorem Cur.mono {B : Nat} {a0 : Option Addr} {len cap b : Nat} {w w' : World} (c : Cur B a0 len cap b w) (h : Below w.heap.size w w') : Cur B a0 len cap b w' where
  small := c.small
  lo := c.lo
  hi := Nat.lt_of_lt_of_le c.hi h.size
  val := by
    obtain ⟨i, v, h0, h1, h2, h3⟩ := c.val
    have hb := c.hi
    exact ⟨i, v, (h.cell (by exact hb)).trans h0, (h.cell (by exact hb)).trans h1, (h.cell (by exact hb)).trans h2, h3⟩
  fr := fun j => (h.frozen (by exact c.hi)).trans (c.fr j)
  row := fun i hi => by
    obtain ⟨xb, xo, z, e, hx, hc, hz⟩ := c.row i hi
    have h1 := c.lo; have h2 := c.hi
    exact ⟨xb, xo, z, e, hx, (h.cell (by show xb < _; omega)).trans hc, hz⟩

theorem Cur.turn {B : Nat} {a0 : Option Addr} {len cap b : Nat} {w w' : World} (c : Cur B a0 len cap b w) (o : Only b w w') (i : Nat) (h : Int) (h0 : w'.cell? ⟨b, 0, none⟩ = some (.slice a0 len cap))
    (h1 : w'.cell? ⟨b, 1, none⟩ = some (.int .i64 i)) (h2 : w'.cell? ⟨b, 2, none⟩ = some (.int .i64 h)) (hi : i ≤ len) (fr : ∀ j, w'.frozen? ⟨b, j, none⟩ = false) : Cur B a0 len cap b w' where
  small := c.small
  lo := c.lo
  hi := Nat.lt_of_lt_of_le c.hi o.size
  val := ⟨i, h, h0, h1, h2, hi⟩
  fr := fr
  row := fun i hi => by
    obtain ⟨xb, xo, z, e, hx, hc, hz⟩ := c.row i hi
    have h1 := c.lo; have h2 := c.hi
    exact ⟨xb, xo, z, e, hx, (o.cell (by show xb < _; omega) (by show xb ≠ _; omega)).trans hc, hz⟩

theorem Cur.fin {B : Nat} {a0 : Option Addr} {len cap b : Nat} {w w' : World} (c : Cur B a0 len cap b w) (i : Nat) (h : Int) (o : Only b w w') (h0 : w'.cell? ⟨b, 0, none⟩ = some (.slice a0 len cap))
    (h1 : w'.cell? ⟨b, 1, none⟩ = some (.int .i64 i)) (h2 : w'.cell? ⟨b, 2, none⟩ = some (.int .i64 h)) (hi : i ≤ len) (fr : ∀ j, w'.frozen? ⟨b, j, none⟩ = false) : Cur B a0 len cap b w' ∧ Only b w w' :=
  ⟨c.turn o i h h0 h1 h2 hi fr, o⟩

theorem and255_i64 (n : Int) : bits .and .i64 n 255 = n % 256 := by
  have h255 : (BitVec.ofInt 64 255).toNat = 2 ^ 8 - 1 := by decide
  have key : (BitVec.ofInt 64 n &&& BitVec.ofInt 64 255).toNat = (n % ((2 ^ 64 : Nat) : Int)).toNat % 2 ^ 8 := by
    rw [BitVec.toNat_and, BitVec.toNat_ofInt, h255, Nat.and_two_pow_sub_one_eq_mod]
  show IntKind.i64.wrap ((BitVec.ofInt 64 n &&& BitVec.ofInt 64 255).toNat : Nat) = n % 256
  rw [key, IntKind.wrap_i64]
  omega

end Go.Proofs.Ytoeiheccmpjclar

/- The draw of a bucket: what it holds while it is made. -/
import Derived.Test.YtmophpbfaonfmacGrpK
import Derived.Test.YtmophpbfaonfmacDraws1
import Derived.Deep.CutBlock
namespace Go.Proofs.Ytmophpbfaonfmac
open Go.ChangeShapes Go.WideShapes Go.ChangeAt Go.RowKit
set_option maxRecDepth 100000
set_option linter.unusedVariables false

/-- Block g holds four numbers, none frozen. -/
structure Four (w : World) (g : Nat) (r u l t : Int) : Prop where
  c0 : w.cell? ⟨g, 0, none⟩ = some (.int .i64 r)
  c1 : w.cell? ⟨g, 1, none⟩ = some (.int .i64 u)
  c2 : w.cell? ⟨g, 2, none⟩ = some (.int .i64 l)
  c3 : w.cell? ⟨g, 3, none⟩ = some (.int .i64 t)
  fr : ∀ o : Nat, w.frozen? ⟨g, o, none⟩ = false
theorem Four.only {w w' : World} {g b : Nat} {r u l t : Int} (f : Four w g r u l t) (o : Only b w w') (hg : g < w.heap.size) (hb : g ≠ b) : Four w' g r u l t :=
  ⟨(o.cell (by exact hg) (by exact hb)).trans f.c0, (o.cell (by exact hg) (by exact hb)).trans f.c1, (o.cell (by exact hg) (by exact hb)).trans f.c2, (o.cell (by exact hg) (by exact hb)).trans f.c3, fun i => (o.frozen (by exact hg) (by exact hb)).trans (f.fr i)⟩
/-- While a bucket is drawn: the cursor at b; of old blocks b alone has turned; block R, the result; block g, the bucket so far. -/
structure BSt (B : Nat) (a0 : Option Addr) (len cap b : Nat) (w wr : World) (g : Nat) (r u l t : Int) : Prop where
  cur : Cur B a0 len cap b wr
  only : Only b w wr
  lt : b < w.heap.size
  lo : w.heap.size < g
  hi : g < wr.heap.size
  res : Four wr w.heap.size 0 0 0 0
  fil : Four wr g r u l t
section
variable {B : Nat} {a0 : Option Addr} {len cap b : Nat} {w wr : World} {g : Nat} {r u l t : Int}
theorem BSt.draw (d : BSt B a0 len cap b w wr g r u l t) {w2 : World} (o : Only b wr w2) (k : Cur B a0 len cap b w2) : BSt B a0 len cap b w w2 g r u l t :=
  have h1 := d.lt; have h2 := d.lo; have h3 := d.hi
  ⟨k, d.only.trans o, d.lt, d.lo, Nat.lt_of_lt_of_le d.hi o.size, d.res.only o (by omega) (by omega), d.fil.only o d.hi (by omega)⟩
theorem BSt.next (d : BSt B a0 len cap b w wr g r u l t) {w2 : World} (h : Below wr.heap.size wr w2) : BSt B a0 len cap b w w2 g r u l t := d.draw (Only.of_below h) (d.cur.mono h)
theorem BSt.turn (d : BSt B a0 len cap b w wr g r u l t) {w2 : World} (h : Only g wr w2) {r' u' l' t' : Int} (f : Four w2 g r' u' l' t') : BSt B a0 len cap b w w2 g r' u' l' t' := by
  have h1 := d.lt; have h2 := d.lo; have h3 := d.hi
  have k := d.cur
  have hk := k.lo
  have hh := k.hi
  refine ⟨⟨k.small, k.lo, Nat.lt_of_lt_of_le k.hi h.size, ?_, fun j => (h.frozen (by exact hh) (by show b ≠ g; omega)).trans (k.fr j), fun i hi => ?_⟩, ?_, d.lt, d.lo, Nat.lt_of_lt_of_le d.hi h.size, d.res.only h (by omega) (by omega), f⟩
  · obtain ⟨i, v, e0, e1, e2, e3⟩ := k.val
    exact ⟨i, v, (h.cell (by exact hh) (by show b ≠ g; omega)).trans e0, (h.cell (by exact hh) (by show b ≠ g; omega)).trans e1, (h.cell (by exact hh) (by show b ≠ g; omega)).trans e2, e3⟩
  · obtain ⟨xb, xo, z, e, hx, hc, hz⟩ := k.row i hi
    exact ⟨xb, xo, z, e, hx, (h.cell (by show xb < _; omega) (by show xb ≠ g; omega)).trans hc, hz⟩
  · exact ⟨h.os.trans d.only.os, h.tape.trans d.only.tape, h.output.trans d.only.output, Nat.le_trans d.only.size h.size, fun i hi hb => (h.block i (Nat.lt_of_lt_of_le hi d.only.size) (by omega)).trans (d.only.block i hi hb)⟩
theorem Four.set0 {w : World} (f : Four w g r u l t) (z : Int) : Four (w.setCell ⟨g, 0, none⟩ (.int .i64 z)) g z u l t :=
  ⟨set_same4 _ f.c0, (set_other4 (by decide)).trans f.c1, (set_other4 (by decide)).trans f.c2, (set_other4 (by decide)).trans f.c3, fun o => by simpa using f.fr o⟩
theorem Four.set1 {w : World} (f : Four w g r u l t) (z : Int) : Four (w.setCell ⟨g, 1, none⟩ (.int .i64 z)) g r z l t :=
  ⟨(set_other4 (by decide)).trans f.c0, set_same4 _ f.c1, (set_other4 (by decide)).trans f.c2, (set_other4 (by decide)).trans f.c3, fun o => by simpa using f.fr o⟩
theorem Four.set2 {w : World} (f : Four w g r u l t) (z : Int) : Four (w.setCell ⟨g, 2, none⟩ (.int .i64 z)) g r u z t :=
  ⟨(set_other4 (by decide)).trans f.c0, (set_other4 (by decide)).trans f.c1, set_same4 _ f.c2, (set_other4 (by decide)).trans f.c3, fun o => by simpa using f.fr o⟩
theorem Four.set3 {w : World} (f : Four w g r u l t) (z : Int) : Four (w.setCell ⟨g, 3, none⟩ (.int .i64 z)) g r u l z :=
  ⟨(set_other4 (by decide)).trans f.c0, (set_other4 (by decide)).trans f.c1, (set_other4 (by decide)).trans f.c2, set_same4 _ f.c3, fun o => by simpa using f.fr o⟩
theorem only_set (w : World) (g i : Nat) (v : Value) : Only g w (w.setCell ⟨g, i, none⟩ v) := (Only.refl g w).setCell (p := ⟨g, i, none⟩) rfl _
theorem BSt.set0 (d : BSt B a0 len cap b w wr g r u l t) (z : Int) : BSt B a0 len cap b w (wr.setCell ⟨g, 0, none⟩ (.int .i64 z)) g z u l t := d.turn (only_set _ _ _ _) (d.fil.set0 z)
theorem BSt.set1 (d : BSt B a0 len cap b w wr g r u l t) (z : Int) : BSt B a0 len cap b w (wr.setCell ⟨g, 1, none⟩ (.int .i64 z)) g r z l t := d.turn (only_set _ _ _ _) (d.fil.set1 z)
theorem BSt.set2 (d : BSt B a0 len cap b w wr g r u l t) (z : Int) : BSt B a0 len cap b w (wr.setCell ⟨g, 2, none⟩ (.int .i64 z)) g r u z t := d.turn (only_set _ _ _ _) (d.fil.set2 z)
theorem BSt.set3 (d : BSt B a0 len cap b w wr g r u l t) (z : Int) : BSt B a0 len cap b w (wr.setCell ⟨g, 3, none⟩ (.int .i64 z)) g r u l z := d.turn (only_set _ _ _ _) (d.fil.set3 z)
theorem BSt.done (d : BSt B a0 len cap b w wr g r u l t) (v0 v1 v2 v3 : Value) : Cur B a0 len cap b ((((wr.setCell ⟨w.heap.size, 0, none⟩ v0).setCell ⟨w.heap.size, 1, none⟩ v1).setCell ⟨w.heap.size, 2, none⟩ v2).setCell ⟨w.heap.size, 3, none⟩ v3) ∧
    Only b w ((((wr.setCell ⟨w.heap.size, 0, none⟩ v0).setCell ⟨w.heap.size, 1, none⟩ v1).setCell ⟨w.heap.size, 2, none⟩ v2).setCell ⟨w.heap.size, 3, none⟩ v3) := by
  have h : Only w.heap.size wr ((((wr.setCell ⟨w.heap.size, 0, none⟩ v0).setCell ⟨w.heap.size, 1, none⟩ v1).setCell ⟨w.heap.size, 2, none⟩ v2).setCell ⟨w.heap.size, 3, none⟩ v3) := (((only_set _ _ _ _).trans (only_set _ _ _ _)).trans (only_set _ _ _ _)).trans (only_set _ _ _ _)
  have h1 := d.lt
  have k := d.cur
  have hk := k.lo
  have hh := k.hi
  have h2 := d.lo
  have h3 := d.hi
  refine ⟨⟨k.small, k.lo, Nat.lt_of_lt_of_le k.hi h.size, ?_, fun j => (h.frozen (by exact hh) (by show b ≠ _; omega)).trans (k.fr j), fun i hi => ?_⟩, ?_⟩
  · obtain ⟨i, v, e0, e1, e2, e3⟩ := k.val
    exact ⟨i, v, (h.cell (by exact hh) (by show b ≠ _; omega)).trans e0, (h.cell (by exact hh) (by show b ≠ _; omega)).trans e1, (h.cell (by exact hh) (by show b ≠ _; omega)).trans e2, e3⟩
  · obtain ⟨xb, xo, z, e, hx, hc, hz⟩ := k.row i hi
    exact ⟨xb, xo, z, e, hx, (h.cell (by show xb < _; omega) (by show xb ≠ _; omega)).trans hc, hz⟩
  · exact ⟨h.os.trans d.only.os, h.tape.trans d.only.tape, h.output.trans d.only.output, Nat.le_trans d.only.size h.size, fun i hi hb => (h.block i (Nat.lt_of_lt_of_le hi d.only.size) (by omega)).trans (d.only.block i hi hb)⟩
end
end Go.Proofs.Ytmophpbfaonfmac

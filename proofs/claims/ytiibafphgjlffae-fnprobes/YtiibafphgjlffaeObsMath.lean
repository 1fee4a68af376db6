/- Observe: its steps on numbers, and what it holds while they are done. -/
import Derived.Test.YtiibafphgjlffaePrbTo
import Derived.Test.YtiibafphgjlffaeFilMath
namespace Go.Proofs.Ytiibafphgjlffae
open Go.ChangeShapes Go.WideShapes Go.ChangeAt Go.RowKit
set_option maxRecDepth 100000
set_option linter.unusedVariables false
set_option linter.unusedSimpArgs false

/-- A Probe's numbers. -/
structure Pb where
  sa : Int
  cy : Int
  sn : Int
  tp : Int
  sv : Int
  mt : Int
  ta : Int
def obA (now trip : Int) (p : Pb) : Pb := if p.mt = 0 ∨ trip ≤ p.mt ∨ (p.sa = 4 ∧ 200000000 ≤ now - p.sn) then { p with mt := trip, ta := now } else p
def obB (now be : Int) (p : Pb) : Pb := if p.sa = 1 then (if 5 * p.tp / 4 < be then { p with tp := be, sv := 0 } else if min 3 (p.sv + 1) = 3 then { p with sv := 3, sa := 2, sn := now } else { p with sv := min 3 (p.sv + 1) }) else p
def obC (now be flight : Int) (p : Pb) : Pb := if p.sa = 2 ∧ flight ≤ bytesOf be p.mt then { p with sa := 3, cy := 0, sn := now } else p
def obD (was now : Int) (p : Pb) : Pb := if was = 3 ∧ p.mt ≤ now - p.sn then { p with cy := (p.cy + 1) % 8, sn := now } else p
def obE (was now : Int) (p : Pb) : Pb := if was ≠ 4 ∧ 10000000000 ≤ now - p.ta then { p with sa := 4, sn := now } else p
def obF (was now : Int) (p : Pb) : Pb := if was = 4 ∧ 200000000 ≤ now - p.sn then { p with sa := 3, cy := 0, sn := now } else p
def obs (now be trip flight : Int) (p : Pb) : Pb := obF p.sa now (obE p.sa now (obD p.sa now (obC now be flight (obB now be (obA now trip p)))))
/-- The Probe in block W while it is observed, the answer's block behind it, the new band in block fb. -/
structure OB (w wr : World) (fb : Nat) (a : Option Addr) (n c : Nat) (zs : List (Int × Int)) (s : Pb) : Prop where
  c0 : wr.cell? ⟨w.heap.size, 0, none⟩ = some (.int .i64 s.sa)
  c1 : wr.cell? ⟨w.heap.size, 1, none⟩ = some (.int .i64 s.cy)
  c2 : wr.cell? ⟨w.heap.size, 2, none⟩ = some (.int .i64 s.sn)
  c3 : wr.cell? ⟨w.heap.size, 3, none⟩ = some (.int .i64 s.tp)
  c4 : wr.cell? ⟨w.heap.size, 4, none⟩ = some (.int .i64 s.sv)
  c5 : wr.cell? ⟨w.heap.size, 5, none⟩ = some (.slice a n c)
  c6 : wr.cell? ⟨w.heap.size, 6, none⟩ = some (.int .i64 s.mt)
  c7 : wr.cell? ⟨w.heap.size, 7, none⟩ = some (.int .i64 s.ta)
  cz : ∀ o : Nat, wr.frozen? ⟨w.heap.size, o, none⟩ = false
  r0 : wr.cell? ⟨w.heap.size + 1, 0, none⟩ = some (.int .i64 0)
  r1 : wr.cell? ⟨w.heap.size + 1, 1, none⟩ = some (.int .i64 0)
  r2 : wr.cell? ⟨w.heap.size + 1, 2, none⟩ = some (.int .i64 0)
  r3 : wr.cell? ⟨w.heap.size + 1, 3, none⟩ = some (.int .i64 0)
  r4 : wr.cell? ⟨w.heap.size + 1, 4, none⟩ = some (.int .i64 0)
  r5 : wr.cell? ⟨w.heap.size + 1, 5, none⟩ = some (.slice none 0 0)
  r6 : wr.cell? ⟨w.heap.size + 1, 6, none⟩ = some (.int .i64 0)
  r7 : wr.cell? ⟨w.heap.size + 1, 7, none⟩ = some (.int .i64 0)
  rz : ∀ o : Nat, wr.frozen? ⟨w.heap.size + 1, o, none⟩ = false
  f0 : wr.cell? ⟨fb, 0, none⟩ = some (.slice a n c)
  fv : FV wr (w.heap.size + 2) (.slice a n c) zs
  bel : Below w.heap.size w wr
  of : w.heap.size + 1 < fb
  zf : fb < wr.heap.size
section
variable {w wr : World} {fb : Nat} {a : Option Addr} {n c : Nat} {zs : List (Int × Int)} {s : Pb}
theorem OB.next (d : OB w wr fb a n c zs s) {w2 : World} (h : Below wr.heap.size wr w2) : OB w w2 fb a n c zs s :=
  have h1 := d.of; have h2 := d.zf
  ⟨(h.cell (by show w.heap.size < _; omega)).trans d.c0, (h.cell (by show w.heap.size < _; omega)).trans d.c1, (h.cell (by show w.heap.size < _; omega)).trans d.c2, (h.cell (by show w.heap.size < _; omega)).trans d.c3, (h.cell (by show w.heap.size < _; omega)).trans d.c4, (h.cell (by show w.heap.size < _; omega)).trans d.c5, (h.cell (by show w.heap.size < _; omega)).trans d.c6, (h.cell (by show w.heap.size < _; omega)).trans d.c7, fun o => (h.frozen (by show w.heap.size < _; omega)).trans (d.cz o), (h.cell (by show w.heap.size + 1 < _; omega)).trans d.r0, (h.cell (by show w.heap.size + 1 < _; omega)).trans d.r1, (h.cell (by show w.heap.size + 1 < _; omega)).trans d.r2, (h.cell (by show w.heap.size + 1 < _; omega)).trans d.r3, (h.cell (by show w.heap.size + 1 < _; omega)).trans d.r4, (h.cell (by show w.heap.size + 1 < _; omega)).trans d.r5, (h.cell (by show w.heap.size + 1 < _; omega)).trans d.r6, (h.cell (by show w.heap.size + 1 < _; omega)).trans d.r7, fun o => (h.frozen (by show w.heap.size + 1 < _; omega)).trans (d.rz o), (h.cell (by exact h2)).trans d.f0, d.fv.next h, below_two d.bel h, d.of, Nat.lt_of_lt_of_le d.zf h.size⟩
theorem OB.turn (d : OB w wr fb a n c zs s) {w2 : World} {s' : Pb} (o : Only w.heap.size wr w2) (q0 : w2.cell? ⟨w.heap.size, 0, none⟩ = some (.int .i64 s'.sa)) (q1 : w2.cell? ⟨w.heap.size, 1, none⟩ = some (.int .i64 s'.cy)) (q2 : w2.cell? ⟨w.heap.size, 2, none⟩ = some (.int .i64 s'.sn)) (q3 : w2.cell? ⟨w.heap.size, 3, none⟩ = some (.int .i64 s'.tp)) (q4 : w2.cell? ⟨w.heap.size, 4, none⟩ = some (.int .i64 s'.sv)) (q5 : w2.cell? ⟨w.heap.size, 5, none⟩ = some (.slice a n c)) (q6 : w2.cell? ⟨w.heap.size, 6, none⟩ = some (.int .i64 s'.mt)) (q7 : w2.cell? ⟨w.heap.size, 7, none⟩ = some (.int .i64 s'.ta)) (qz : ∀ o : Nat, w2.frozen? ⟨w.heap.size, o, none⟩ = false) : OB w w2 fb a n c zs s' :=
  have h1 := d.of; have h2 := d.zf
  ⟨q0, q1, q2, q3, q4, q5, q6, q7, qz, (o.cell (by show w.heap.size + 1 < _; omega) (by show w.heap.size + 1 ≠ _; omega)).trans d.r0, (o.cell (by show w.heap.size + 1 < _; omega) (by show w.heap.size + 1 ≠ _; omega)).trans d.r1, (o.cell (by show w.heap.size + 1 < _; omega) (by show w.heap.size + 1 ≠ _; omega)).trans d.r2, (o.cell (by show w.heap.size + 1 < _; omega) (by show w.heap.size + 1 ≠ _; omega)).trans d.r3, (o.cell (by show w.heap.size + 1 < _; omega) (by show w.heap.size + 1 ≠ _; omega)).trans d.r4, (o.cell (by show w.heap.size + 1 < _; omega) (by show w.heap.size + 1 ≠ _; omega)).trans d.r5, (o.cell (by show w.heap.size + 1 < _; omega) (by show w.heap.size + 1 ≠ _; omega)).trans d.r6, (o.cell (by show w.heap.size + 1 < _; omega) (by show w.heap.size + 1 ≠ _; omega)).trans d.r7, fun k => (o.frozen (by show w.heap.size + 1 < _; omega) (by show w.heap.size + 1 ≠ _; omega)).trans (d.rz k), (o.cell (by exact h2) (by show fb ≠ _; omega)).trans d.f0, d.fv.onlyO (OnlyO.of_only o) (fun g hg e => by have := (d.fv.own hg).1; injection e with e; omega), d.bel.trans (o.below (Nat.le_refl _) (by omega)), d.of, Nat.lt_of_lt_of_le d.zf o.size⟩
theorem OB.set_sa (d : OB w wr fb a n c zs s) (z : Int) : OB w (wr.setCell ⟨w.heap.size, 0, none⟩ (.int .i64 z)) fb a n c zs { s with sa := z } :=
  d.turn (only_set3x _ _ _ _) (set_same4 _ d.c0) ((set_other4 (by decide)).trans d.c1) ((set_other4 (by decide)).trans d.c2) ((set_other4 (by decide)).trans d.c3) ((set_other4 (by decide)).trans d.c4) ((set_other4 (by decide)).trans d.c5) ((set_other4 (by decide)).trans d.c6) ((set_other4 (by decide)).trans d.c7) (fun o => by simpa using d.cz o)
theorem OB.set_cy (d : OB w wr fb a n c zs s) (z : Int) : OB w (wr.setCell ⟨w.heap.size, 1, none⟩ (.int .i64 z)) fb a n c zs { s with cy := z } :=
  d.turn (only_set3x _ _ _ _) ((set_other4 (by decide)).trans d.c0) (set_same4 _ d.c1) ((set_other4 (by decide)).trans d.c2) ((set_other4 (by decide)).trans d.c3) ((set_other4 (by decide)).trans d.c4) ((set_other4 (by decide)).trans d.c5) ((set_other4 (by decide)).trans d.c6) ((set_other4 (by decide)).trans d.c7) (fun o => by simpa using d.cz o)
theorem OB.set_sn (d : OB w wr fb a n c zs s) (z : Int) : OB w (wr.setCell ⟨w.heap.size, 2, none⟩ (.int .i64 z)) fb a n c zs { s with sn := z } :=
  d.turn (only_set3x _ _ _ _) ((set_other4 (by decide)).trans d.c0) ((set_other4 (by decide)).trans d.c1) (set_same4 _ d.c2) ((set_other4 (by decide)).trans d.c3) ((set_other4 (by decide)).trans d.c4) ((set_other4 (by decide)).trans d.c5) ((set_other4 (by decide)).trans d.c6) ((set_other4 (by decide)).trans d.c7) (fun o => by simpa using d.cz o)
theorem OB.set_tp (d : OB w wr fb a n c zs s) (z : Int) : OB w (wr.setCell ⟨w.heap.size, 3, none⟩ (.int .i64 z)) fb a n c zs { s with tp := z } :=
  d.turn (only_set3x _ _ _ _) ((set_other4 (by decide)).trans d.c0) ((set_other4 (by decide)).trans d.c1) ((set_other4 (by decide)).trans d.c2) (set_same4 _ d.c3) ((set_other4 (by decide)).trans d.c4) ((set_other4 (by decide)).trans d.c5) ((set_other4 (by decide)).trans d.c6) ((set_other4 (by decide)).trans d.c7) (fun o => by simpa using d.cz o)
theorem OB.set_sv (d : OB w wr fb a n c zs s) (z : Int) : OB w (wr.setCell ⟨w.heap.size, 4, none⟩ (.int .i64 z)) fb a n c zs { s with sv := z } :=
  d.turn (only_set3x _ _ _ _) ((set_other4 (by decide)).trans d.c0) ((set_other4 (by decide)).trans d.c1) ((set_other4 (by decide)).trans d.c2) ((set_other4 (by decide)).trans d.c3) (set_same4 _ d.c4) ((set_other4 (by decide)).trans d.c5) ((set_other4 (by decide)).trans d.c6) ((set_other4 (by decide)).trans d.c7) (fun o => by simpa using d.cz o)
theorem OB.set_mt (d : OB w wr fb a n c zs s) (z : Int) : OB w (wr.setCell ⟨w.heap.size, 6, none⟩ (.int .i64 z)) fb a n c zs { s with mt := z } :=
  d.turn (only_set3x _ _ _ _) ((set_other4 (by decide)).trans d.c0) ((set_other4 (by decide)).trans d.c1) ((set_other4 (by decide)).trans d.c2) ((set_other4 (by decide)).trans d.c3) ((set_other4 (by decide)).trans d.c4) ((set_other4 (by decide)).trans d.c5) (set_same4 _ d.c6) ((set_other4 (by decide)).trans d.c7) (fun o => by simpa using d.cz o)
theorem OB.set_ta (d : OB w wr fb a n c zs s) (z : Int) : OB w (wr.setCell ⟨w.heap.size, 7, none⟩ (.int .i64 z)) fb a n c zs { s with ta := z } :=
  d.turn (only_set3x _ _ _ _) ((set_other4 (by decide)).trans d.c0) ((set_other4 (by decide)).trans d.c1) ((set_other4 (by decide)).trans d.c2) ((set_other4 (by decide)).trans d.c3) ((set_other4 (by decide)).trans d.c4) ((set_other4 (by decide)).trans d.c5) ((set_other4 (by decide)).trans d.c6) (set_same4 _ d.c7) (fun o => by simpa using d.cz o)
end
end Go.Proofs.Ytiibafphgjlffae

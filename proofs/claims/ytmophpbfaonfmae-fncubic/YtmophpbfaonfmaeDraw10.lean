/- The draw of a Cc: what it holds while it is made. -/
import Derived.Test.YtmophpbfaonfmaeSpecSome
import Derived.Test.YtmophpbfaonfmaeDraws1
import Derived.Deep.CutBlock
namespace Go.Proofs.Ytmophpbfaonfmae
open Go.ChangeShapes Go.WideShapes Go.ChangeAt Go.RowKit
set_option maxRecDepth 100000
set_option linter.unusedVariables false
set_option linter.unusedSimpArgs false

/-- Block g holds a Cc, none of it frozen. -/
structure Ten (w : World) (g : Nat) (c : C10) : Prop where
  c0 : w.cell? ⟨g, 0, none⟩ = some (.int .i64 c.k)
  c1 : w.cell? ⟨g, 1, none⟩ = some (.int .i64 c.wn)
  c2 : w.cell? ⟨g, 2, none⟩ = some (.int .i64 c.th)
  c3 : w.cell? ⟨g, 3, none⟩ = some (.int .i64 c.fl)
  c4 : w.cell? ⟨g, 4, none⟩ = some (.int .i64 c.ac)
  c5 : w.cell? ⟨g, 5, none⟩ = some (.int .i64 c.la)
  c6 : w.cell? ⟨g, 6, none⟩ = some (.int .i64 c.og)
  c7 : w.cell? ⟨g, 7, none⟩ = some (.int .i64 c.st)
  c8 : w.cell? ⟨g, 8, none⟩ = some (.int .i64 c.fr)
  c9 : w.cell? ⟨g, 9, none⟩ = some (.bool c.sl)
  fr : ∀ o : Nat, w.frozen? ⟨g, o, none⟩ = false
theorem Ten.only {w w' : World} {g b : Nat} {c : C10} (f : Ten w g c) (o : Only b w w') (hg : g < w.heap.size) (hb : g ≠ b) : Ten w' g c :=
  ⟨(o.cell (by exact hg) (by exact hb)).trans f.c0, (o.cell (by exact hg) (by exact hb)).trans f.c1, (o.cell (by exact hg) (by exact hb)).trans f.c2, (o.cell (by exact hg) (by exact hb)).trans f.c3, (o.cell (by exact hg) (by exact hb)).trans f.c4, (o.cell (by exact hg) (by exact hb)).trans f.c5, (o.cell (by exact hg) (by exact hb)).trans f.c6, (o.cell (by exact hg) (by exact hb)).trans f.c7, (o.cell (by exact hg) (by exact hb)).trans f.c8, (o.cell (by exact hg) (by exact hb)).trans f.c9, fun i => (o.frozen (by exact hg) (by exact hb)).trans (f.fr i)⟩
/-- While a Cc is drawn: the cursor at b; of old blocks b alone has turned; the result's block; block g, the Cc so far. -/
structure T10St (B : Nat) (a0 : Option Addr) (len cap b : Nat) (w wr : World) (g : Nat) (c : C10) : Prop where
  cur : Cur B a0 len cap b wr
  only : Only b w wr
  lt : b < w.heap.size
  lo : w.heap.size < g
  hi : g < wr.heap.size
  res : Ten wr w.heap.size zeroC
  fil : Ten wr g c
section
variable {B : Nat} {a0 : Option Addr} {len cap b : Nat} {w wr : World} {g : Nat} {c : C10}
theorem T10St.draw (d : T10St B a0 len cap b w wr g c) {w2 : World} (o : Only b wr w2) (k : Cur B a0 len cap b w2) : T10St B a0 len cap b w w2 g c :=
  have h1 := d.lt; have h2 := d.lo; have h3 := d.hi
  ⟨k, d.only.trans o, d.lt, d.lo, Nat.lt_of_lt_of_le d.hi o.size, d.res.only o (by omega) (by omega), d.fil.only o d.hi (by omega)⟩
theorem T10St.next (d : T10St B a0 len cap b w wr g c) {w2 : World} (h : Below wr.heap.size wr w2) : T10St B a0 len cap b w w2 g c := d.draw (Only.of_below h) (d.cur.mono h)
/-- A block above the old ones is written. -/
theorem cur_far {B : Nat} {a0 : Option Addr} {len cap b : Nat} {w wr w2 : World} {h : Nat} (k : Cur B a0 len cap b wr) (on : Only b w wr) (lt : b < w.heap.size) (hg : w.heap.size ≤ h) (o : Only h wr w2) : Cur B a0 len cap b w2 ∧ Only b w w2 := by
  have hk := k.lo
  have hh := k.hi
  refine ⟨⟨k.small, k.lo, Nat.lt_of_lt_of_le k.hi o.size, ?_, fun j => (o.frozen (by exact hh) (by show b ≠ h; omega)).trans (k.fr j), fun i hi => ?_⟩, ?_⟩
  · obtain ⟨i, v, e0, e1, e2, e3⟩ := k.val
    exact ⟨i, v, (o.cell (by exact hh) (by show b ≠ h; omega)).trans e0, (o.cell (by exact hh) (by show b ≠ h; omega)).trans e1, (o.cell (by exact hh) (by show b ≠ h; omega)).trans e2, e3⟩
  · obtain ⟨xb, xo, z, e, hx, hc, hz⟩ := k.row i hi
    exact ⟨xb, xo, z, e, hx, (o.cell (by show xb < _; omega) (by show xb ≠ h; omega)).trans hc, hz⟩
  · exact ⟨o.os.trans on.os, o.tape.trans on.tape, o.output.trans on.output, Nat.le_trans on.size o.size, fun i hi hb => (o.block i (Nat.lt_of_lt_of_le hi on.size) (by omega)).trans (on.block i hi hb)⟩
theorem T10St.turn (d : T10St B a0 len cap b w wr g c) {w2 : World} (h : Only g wr w2) {c' : C10} (f : Ten w2 g c') : T10St B a0 len cap b w w2 g c' := by
  have h1 := d.lt; have h2 := d.lo; have h3 := d.hi
  obtain ⟨k2, o2⟩ := cur_far d.cur d.only d.lt (Nat.le_of_lt d.lo) h
  exact ⟨k2, o2, d.lt, d.lo, Nat.lt_of_lt_of_le d.hi h.size, d.res.only h (by omega) (by omega), f⟩
theorem only_set10 (w : World) (g i : Nat) (v : Value) : Only g w (w.setCell ⟨g, i, none⟩ v) := (Only.refl g w).setCell (p := ⟨g, i, none⟩) rfl _
theorem Ten.set0 {w : World} (f : Ten w g c) (z : Int) : Ten (w.setCell ⟨g, 0, none⟩ (.int .i64 z)) g { c with k := z } :=
  ⟨set_same4 _ f.c0, (set_other4 (by decide)).trans f.c1, (set_other4 (by decide)).trans f.c2, (set_other4 (by decide)).trans f.c3, (set_other4 (by decide)).trans f.c4, (set_other4 (by decide)).trans f.c5, (set_other4 (by decide)).trans f.c6, (set_other4 (by decide)).trans f.c7, (set_other4 (by decide)).trans f.c8, (set_other4 (by decide)).trans f.c9, fun o => by simpa using f.fr o⟩
theorem T10St.set0 (d : T10St B a0 len cap b w wr g c) (z : Int) : T10St B a0 len cap b w (wr.setCell ⟨g, 0, none⟩ (.int .i64 z)) g { c with k := z } := d.turn (only_set10 _ _ _ _) (d.fil.set0 z)
theorem Ten.set1 {w : World} (f : Ten w g c) (z : Int) : Ten (w.setCell ⟨g, 1, none⟩ (.int .i64 z)) g { c with wn := z } :=
  ⟨(set_other4 (by decide)).trans f.c0, set_same4 _ f.c1, (set_other4 (by decide)).trans f.c2, (set_other4 (by decide)).trans f.c3, (set_other4 (by decide)).trans f.c4, (set_other4 (by decide)).trans f.c5, (set_other4 (by decide)).trans f.c6, (set_other4 (by decide)).trans f.c7, (set_other4 (by decide)).trans f.c8, (set_other4 (by decide)).trans f.c9, fun o => by simpa using f.fr o⟩
theorem T10St.set1 (d : T10St B a0 len cap b w wr g c) (z : Int) : T10St B a0 len cap b w (wr.setCell ⟨g, 1, none⟩ (.int .i64 z)) g { c with wn := z } := d.turn (only_set10 _ _ _ _) (d.fil.set1 z)
theorem Ten.set2 {w : World} (f : Ten w g c) (z : Int) : Ten (w.setCell ⟨g, 2, none⟩ (.int .i64 z)) g { c with th := z } :=
  ⟨(set_other4 (by decide)).trans f.c0, (set_other4 (by decide)).trans f.c1, set_same4 _ f.c2, (set_other4 (by decide)).trans f.c3, (set_other4 (by decide)).trans f.c4, (set_other4 (by decide)).trans f.c5, (set_other4 (by decide)).trans f.c6, (set_other4 (by decide)).trans f.c7, (set_other4 (by decide)).trans f.c8, (set_other4 (by decide)).trans f.c9, fun o => by simpa using f.fr o⟩
theorem T10St.set2 (d : T10St B a0 len cap b w wr g c) (z : Int) : T10St B a0 len cap b w (wr.setCell ⟨g, 2, none⟩ (.int .i64 z)) g { c with th := z } := d.turn (only_set10 _ _ _ _) (d.fil.set2 z)
theorem Ten.set3 {w : World} (f : Ten w g c) (z : Int) : Ten (w.setCell ⟨g, 3, none⟩ (.int .i64 z)) g { c with fl := z } :=
  ⟨(set_other4 (by decide)).trans f.c0, (set_other4 (by decide)).trans f.c1, (set_other4 (by decide)).trans f.c2, set_same4 _ f.c3, (set_other4 (by decide)).trans f.c4, (set_other4 (by decide)).trans f.c5, (set_other4 (by decide)).trans f.c6, (set_other4 (by decide)).trans f.c7, (set_other4 (by decide)).trans f.c8, (set_other4 (by decide)).trans f.c9, fun o => by simpa using f.fr o⟩
theorem T10St.set3 (d : T10St B a0 len cap b w wr g c) (z : Int) : T10St B a0 len cap b w (wr.setCell ⟨g, 3, none⟩ (.int .i64 z)) g { c with fl := z } := d.turn (only_set10 _ _ _ _) (d.fil.set3 z)
theorem Ten.set4 {w : World} (f : Ten w g c) (z : Int) : Ten (w.setCell ⟨g, 4, none⟩ (.int .i64 z)) g { c with ac := z } :=
  ⟨(set_other4 (by decide)).trans f.c0, (set_other4 (by decide)).trans f.c1, (set_other4 (by decide)).trans f.c2, (set_other4 (by decide)).trans f.c3, set_same4 _ f.c4, (set_other4 (by decide)).trans f.c5, (set_other4 (by decide)).trans f.c6, (set_other4 (by decide)).trans f.c7, (set_other4 (by decide)).trans f.c8, (set_other4 (by decide)).trans f.c9, fun o => by simpa using f.fr o⟩
theorem T10St.set4 (d : T10St B a0 len cap b w wr g c) (z : Int) : T10St B a0 len cap b w (wr.setCell ⟨g, 4, none⟩ (.int .i64 z)) g { c with ac := z } := d.turn (only_set10 _ _ _ _) (d.fil.set4 z)
theorem Ten.set5 {w : World} (f : Ten w g c) (z : Int) : Ten (w.setCell ⟨g, 5, none⟩ (.int .i64 z)) g { c with la := z } :=
  ⟨(set_other4 (by decide)).trans f.c0, (set_other4 (by decide)).trans f.c1, (set_other4 (by decide)).trans f.c2, (set_other4 (by decide)).trans f.c3, (set_other4 (by decide)).trans f.c4, set_same4 _ f.c5, (set_other4 (by decide)).trans f.c6, (set_other4 (by decide)).trans f.c7, (set_other4 (by decide)).trans f.c8, (set_other4 (by decide)).trans f.c9, fun o => by simpa using f.fr o⟩
theorem T10St.set5 (d : T10St B a0 len cap b w wr g c) (z : Int) : T10St B a0 len cap b w (wr.setCell ⟨g, 5, none⟩ (.int .i64 z)) g { c with la := z } := d.turn (only_set10 _ _ _ _) (d.fil.set5 z)
theorem Ten.set6 {w : World} (f : Ten w g c) (z : Int) : Ten (w.setCell ⟨g, 6, none⟩ (.int .i64 z)) g { c with og := z } :=
  ⟨(set_other4 (by decide)).trans f.c0, (set_other4 (by decide)).trans f.c1, (set_other4 (by decide)).trans f.c2, (set_other4 (by decide)).trans f.c3, (set_other4 (by decide)).trans f.c4, (set_other4 (by decide)).trans f.c5, set_same4 _ f.c6, (set_other4 (by decide)).trans f.c7, (set_other4 (by decide)).trans f.c8, (set_other4 (by decide)).trans f.c9, fun o => by simpa using f.fr o⟩
theorem T10St.set6 (d : T10St B a0 len cap b w wr g c) (z : Int) : T10St B a0 len cap b w (wr.setCell ⟨g, 6, none⟩ (.int .i64 z)) g { c with og := z } := d.turn (only_set10 _ _ _ _) (d.fil.set6 z)
theorem Ten.set7 {w : World} (f : Ten w g c) (z : Int) : Ten (w.setCell ⟨g, 7, none⟩ (.int .i64 z)) g { c with st := z } :=
  ⟨(set_other4 (by decide)).trans f.c0, (set_other4 (by decide)).trans f.c1, (set_other4 (by decide)).trans f.c2, (set_other4 (by decide)).trans f.c3, (set_other4 (by decide)).trans f.c4, (set_other4 (by decide)).trans f.c5, (set_other4 (by decide)).trans f.c6, set_same4 _ f.c7, (set_other4 (by decide)).trans f.c8, (set_other4 (by decide)).trans f.c9, fun o => by simpa using f.fr o⟩
theorem T10St.set7 (d : T10St B a0 len cap b w wr g c) (z : Int) : T10St B a0 len cap b w (wr.setCell ⟨g, 7, none⟩ (.int .i64 z)) g { c with st := z } := d.turn (only_set10 _ _ _ _) (d.fil.set7 z)
theorem Ten.set8 {w : World} (f : Ten w g c) (z : Int) : Ten (w.setCell ⟨g, 8, none⟩ (.int .i64 z)) g { c with fr := z } :=
  ⟨(set_other4 (by decide)).trans f.c0, (set_other4 (by decide)).trans f.c1, (set_other4 (by decide)).trans f.c2, (set_other4 (by decide)).trans f.c3, (set_other4 (by decide)).trans f.c4, (set_other4 (by decide)).trans f.c5, (set_other4 (by decide)).trans f.c6, (set_other4 (by decide)).trans f.c7, set_same4 _ f.c8, (set_other4 (by decide)).trans f.c9, fun o => by simpa using f.fr o⟩
theorem T10St.set8 (d : T10St B a0 len cap b w wr g c) (z : Int) : T10St B a0 len cap b w (wr.setCell ⟨g, 8, none⟩ (.int .i64 z)) g { c with fr := z } := d.turn (only_set10 _ _ _ _) (d.fil.set8 z)
theorem Ten.set9 {w : World} (f : Ten w g c) (z : Bool) : Ten (w.setCell ⟨g, 9, none⟩ (.bool z)) g { c with sl := z } :=
  ⟨(set_other4 (by decide)).trans f.c0, (set_other4 (by decide)).trans f.c1, (set_other4 (by decide)).trans f.c2, (set_other4 (by decide)).trans f.c3, (set_other4 (by decide)).trans f.c4, (set_other4 (by decide)).trans f.c5, (set_other4 (by decide)).trans f.c6, (set_other4 (by decide)).trans f.c7, (set_other4 (by decide)).trans f.c8, set_same4 _ f.c9, fun o => by simpa using f.fr o⟩
theorem T10St.set9 (d : T10St B a0 len cap b w wr g c) (z : Bool) : T10St B a0 len cap b w (wr.setCell ⟨g, 9, none⟩ (.bool z)) g { c with sl := z } := d.turn (only_set10 _ _ _ _) (d.fil.set9 z)
theorem Ten.put {w : World} (f : Ten w g c) (d : C10) : Ten ((((((((((w.setCell ⟨g, 0, none⟩ (.int .i64 d.k)).setCell ⟨g, 1, none⟩ (.int .i64 d.wn)).setCell ⟨g, 2, none⟩ (.int .i64 d.th)).setCell ⟨g, 3, none⟩ (.int .i64 d.fl)).setCell ⟨g, 4, none⟩ (.int .i64 d.ac)).setCell ⟨g, 5, none⟩ (.int .i64 d.la)).setCell ⟨g, 6, none⟩ (.int .i64 d.og)).setCell ⟨g, 7, none⟩ (.int .i64 d.st)).setCell ⟨g, 8, none⟩ (.int .i64 d.fr)).setCell ⟨g, 9, none⟩ (.bool d.sl)) g d := (((((((((f.set0 d.k).set1 d.wn).set2 d.th).set3 d.fl).set4 d.ac).set5 d.la).set6 d.og).set7 d.st).set8 d.fr).set9 d.sl
theorem only_put (w : World) (g : Nat) (d : C10) : Only g w ((((((((((w.setCell ⟨g, 0, none⟩ (.int .i64 d.k)).setCell ⟨g, 1, none⟩ (.int .i64 d.wn)).setCell ⟨g, 2, none⟩ (.int .i64 d.th)).setCell ⟨g, 3, none⟩ (.int .i64 d.fl)).setCell ⟨g, 4, none⟩ (.int .i64 d.ac)).setCell ⟨g, 5, none⟩ (.int .i64 d.la)).setCell ⟨g, 6, none⟩ (.int .i64 d.og)).setCell ⟨g, 7, none⟩ (.int .i64 d.st)).setCell ⟨g, 8, none⟩ (.int .i64 d.fr)).setCell ⟨g, 9, none⟩ (.bool d.sl)) := (((((((((only_set10 _ _ _ _).trans (only_set10 _ _ _ _)).trans (only_set10 _ _ _ _)).trans (only_set10 _ _ _ _)).trans (only_set10 _ _ _ _)).trans (only_set10 _ _ _ _)).trans (only_set10 _ _ _ _)).trans (only_set10 _ _ _ _)).trans (only_set10 _ _ _ _)).trans (only_set10 _ _ _ _)
theorem T10St.put (h : T10St B a0 len cap b w wr g c) (d : C10) : T10St B a0 len cap b w ((((((((((wr.setCell ⟨g, 0, none⟩ (.int .i64 d.k)).setCell ⟨g, 1, none⟩ (.int .i64 d.wn)).setCell ⟨g, 2, none⟩ (.int .i64 d.th)).setCell ⟨g, 3, none⟩ (.int .i64 d.fl)).setCell ⟨g, 4, none⟩ (.int .i64 d.ac)).setCell ⟨g, 5, none⟩ (.int .i64 d.la)).setCell ⟨g, 6, none⟩ (.int .i64 d.og)).setCell ⟨g, 7, none⟩ (.int .i64 d.st)).setCell ⟨g, 8, none⟩ (.int .i64 d.fr)).setCell ⟨g, 9, none⟩ (.bool d.sl)) g d := h.turn (only_put _ _ _) (h.fil.put d)
theorem T10St.far (h : T10St B a0 len cap b w wr g c) {w2 : World} {x : Nat} (hx : wr.heap.size ≤ x) (o : Only x wr w2) : T10St B a0 len cap b w w2 g c := by
  have h1 := h.lt; have h2 := h.lo; have h3 := h.hi
  have hz := h.only.size
  obtain ⟨k2, o2⟩ := cur_far h.cur h.only h.lt (by omega) o
  exact ⟨k2, o2, h.lt, h.lo, Nat.lt_of_lt_of_le h.hi o.size, h.res.only o (by omega) (by omega), h.fil.only o h.hi (by omega)⟩
/-- A second Cc, made at y, empty yet. -/
structure Y10 (B : Nat) (a0 : Option Addr) (len cap b : Nat) (w wr : World) (g : Nat) (c : C10) (y : Nat) : Prop where
  st : T10St B a0 len cap b w wr g c
  gy : g < y
  yh : y < wr.heap.size
  ten : Ten wr y zeroC
theorem Y10.draw {y : Nat} (h : Y10 B a0 len cap b w wr g c y) {w2 : World} (o : Only b wr w2) (k : Cur B a0 len cap b w2) : Y10 B a0 len cap b w w2 g c y := by
  have h1 := h.st.lt; have h2 := h.st.lo; have h3 := h.gy
  exact ⟨h.st.draw o k, h.gy, Nat.lt_of_lt_of_le h.yh o.size, h.ten.only o h.yh (by omega)⟩
theorem Y10.next {y : Nat} (h : Y10 B a0 len cap b w wr g c y) {w2 : World} (hb : Below wr.heap.size wr w2) : Y10 B a0 len cap b w w2 g c y := h.draw (Only.of_below hb) (h.st.cur.mono hb)
theorem T10St.away (h : T10St B a0 len cap b w wr g c) {w2 : World} {x : Nat} (hx : g < x) (o : Only x wr w2) : T10St B a0 len cap b w w2 g c := by
  have h1 := h.lt; have h2 := h.lo; have h3 := h.hi
  obtain ⟨k2, o2⟩ := cur_far h.cur h.only h.lt (by omega) o
  exact ⟨k2, o2, h.lt, h.lo, Nat.lt_of_lt_of_le h.hi o.size, h.res.only o (by omega) (by omega), h.fil.only o h.hi (by omega)⟩
theorem ten_at (w : World) (d : C10) (T : TypeId) : Ten (w.alloc (.cells #[.int .i64 d.k, .int .i64 d.wn, .int .i64 d.th, .int .i64 d.fl, .int .i64 d.ac, .int .i64 d.la, .int .i64 d.og, .int .i64 d.st, .int .i64 d.fr, .bool d.sl] T)) w.heap.size d := ⟨by go_simp, by go_simp, by go_simp, by go_simp, by go_simp, by go_simp, by go_simp, by go_simp, by go_simp, by go_simp, fun i => by go_simp⟩
theorem Y10.made (h : T10St B a0 len cap b w wr g c) (T : TypeId) : Y10 B a0 len cap b w (wr.alloc (.cells #[.int .i64 0, .int .i64 0, .int .i64 0, .int .i64 0, .int .i64 0, .int .i64 0, .int .i64 0, .int .i64 0, .int .i64 0, .bool false] T)) g c wr.heap.size := ⟨h.next (new_below _ _), h.hi, by simp, ten_at _ zeroC _⟩
theorem Y10.put {y : Nat} (h : Y10 B a0 len cap b w wr g c y) (d : C10) : T10St B a0 len cap b w ((((((((((wr.setCell ⟨y, 0, none⟩ (.int .i64 d.k)).setCell ⟨y, 1, none⟩ (.int .i64 d.wn)).setCell ⟨y, 2, none⟩ (.int .i64 d.th)).setCell ⟨y, 3, none⟩ (.int .i64 d.fl)).setCell ⟨y, 4, none⟩ (.int .i64 d.ac)).setCell ⟨y, 5, none⟩ (.int .i64 d.la)).setCell ⟨y, 6, none⟩ (.int .i64 d.og)).setCell ⟨y, 7, none⟩ (.int .i64 d.st)).setCell ⟨y, 8, none⟩ (.int .i64 d.fr)).setCell ⟨y, 9, none⟩ (.bool d.sl)) g c ∧ Ten ((((((((((wr.setCell ⟨y, 0, none⟩ (.int .i64 d.k)).setCell ⟨y, 1, none⟩ (.int .i64 d.wn)).setCell ⟨y, 2, none⟩ (.int .i64 d.th)).setCell ⟨y, 3, none⟩ (.int .i64 d.fl)).setCell ⟨y, 4, none⟩ (.int .i64 d.ac)).setCell ⟨y, 5, none⟩ (.int .i64 d.la)).setCell ⟨y, 6, none⟩ (.int .i64 d.og)).setCell ⟨y, 7, none⟩ (.int .i64 d.st)).setCell ⟨y, 8, none⟩ (.int .i64 d.fr)).setCell ⟨y, 9, none⟩ (.bool d.sl)) y d := ⟨h.st.away h.gy (only_put _ _ _), h.ten.put d⟩
theorem T10St.done (h : T10St B a0 len cap b w wr g c) (d : C10) : Cur B a0 len cap b ((((((((((wr.setCell ⟨w.heap.size, 0, none⟩ (.int .i64 d.k)).setCell ⟨w.heap.size, 1, none⟩ (.int .i64 d.wn)).setCell ⟨w.heap.size, 2, none⟩ (.int .i64 d.th)).setCell ⟨w.heap.size, 3, none⟩ (.int .i64 d.fl)).setCell ⟨w.heap.size, 4, none⟩ (.int .i64 d.ac)).setCell ⟨w.heap.size, 5, none⟩ (.int .i64 d.la)).setCell ⟨w.heap.size, 6, none⟩ (.int .i64 d.og)).setCell ⟨w.heap.size, 7, none⟩ (.int .i64 d.st)).setCell ⟨w.heap.size, 8, none⟩ (.int .i64 d.fr)).setCell ⟨w.heap.size, 9, none⟩ (.bool d.sl)) ∧ Only b w ((((((((((wr.setCell ⟨w.heap.size, 0, none⟩ (.int .i64 d.k)).setCell ⟨w.heap.size, 1, none⟩ (.int .i64 d.wn)).setCell ⟨w.heap.size, 2, none⟩ (.int .i64 d.th)).setCell ⟨w.heap.size, 3, none⟩ (.int .i64 d.fl)).setCell ⟨w.heap.size, 4, none⟩ (.int .i64 d.ac)).setCell ⟨w.heap.size, 5, none⟩ (.int .i64 d.la)).setCell ⟨w.heap.size, 6, none⟩ (.int .i64 d.og)).setCell ⟨w.heap.size, 7, none⟩ (.int .i64 d.st)).setCell ⟨w.heap.size, 8, none⟩ (.int .i64 d.fr)).setCell ⟨w.heap.size, 9, none⟩ (.bool d.sl)) := cur_far h.cur h.only h.lt (Nat.le_refl _) (only_put _ _ _)
theorem t10_new {k : Nat} {cs : Array Value} {T : TypeId} {c : C10} (hc : cs = #[.int .i64 c.k, .int .i64 c.wn, .int .i64 c.th, .int .i64 c.fl, .int .i64 c.ac, .int .i64 c.la, .int .i64 c.og, .int .i64 c.st, .int .i64 c.fr, .bool c.sl]) (kc : Cur B a0 len cap b wr) (o : Only b w wr) (f : Ten wr w.heap.size zeroC) (z : w.heap.size < wr.heap.size) (hb : b < w.heap.size) : T10St B a0 len cap b w (wr.alloc (.cells cs T)) wr.heap.size c := by
  subst hc
  exact ⟨kc.alloc _, o.alloc _, hb, z, by simp, f.only (Only.of_below (b := b) (new_below _ _)) z (by omega), ⟨by go_simp, by go_simp, by go_simp, by go_simp, by go_simp, by go_simp, by go_simp, by go_simp, by go_simp, by go_simp, fun i => by go_simp⟩⟩
end
theorem ten_zero (w : World) (T : TypeId) : Ten (w.alloc (.cells #[.int .i64 0, .int .i64 0, .int .i64 0, .int .i64 0, .int .i64 0, .int .i64 0, .int .i64 0, .int .i64 0, .int .i64 0, .bool false] T)) w.heap.size zeroC := ⟨by go_simp; rfl, by go_simp; rfl, by go_simp; rfl, by go_simp; rfl, by go_simp; rfl, by go_simp; rfl, by go_simp; rfl, by go_simp; rfl, by go_simp; rfl, by go_simp; rfl, fun i => by go_simp⟩
theorem ten_cells {w : World} {g : Nat} {c : C10} (f : Ten w g c) : ∀ j v, [.int .i64 c.k, .int .i64 c.wn, .int .i64 c.th, .int .i64 c.fl, .int .i64 c.ac, .int .i64 c.la, .int .i64 c.og, .int .i64 c.st, .int .i64 c.fr, .bool c.sl][j]? = some v → w.cell? ⟨g, j, none⟩ = some v := cells_ten f.c0 f.c1 f.c2 f.c3 f.c4 f.c5 f.c6 f.c7 f.c8 f.c9
def D10Post (B : Nat) (a0 : Option Addr) (len cap b : Nat) (w : World) (e : Ending) (w' : World) : Prop := ∃ c : C10, e = .returned (.agg #[.int .i64 c.k, .int .i64 c.wn, .int .i64 c.th, .int .i64 c.fl, .int .i64 c.ac, .int .i64 c.la, .int .i64 c.og, .int .i64 c.st, .int .i64 c.fr, .bool c.sl]) ∧ Cur B a0 len cap b w' ∧ Only b w w'
end Go.Proofs.Ytmophpbfaonfmae

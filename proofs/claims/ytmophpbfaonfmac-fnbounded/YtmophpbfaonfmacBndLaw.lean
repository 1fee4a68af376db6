/- What the law FnBounded carries: a Lend, a Lend that is spent from, leaves, and sums that are written. -/
import Derived.Test.YtmophpbfaonfmacBndMath
import Derived.Test.YtmophpbfaonfmacGrpE
import Derived.Test.YtmophpbfaonfmacSpendBoth
namespace Go.Proofs.Ytmophpbfaonfmac
open Go.ChangeShapes Go.WideShapes Go.ChangeAt Go.RowKit
set_option maxRecDepth 100000
set_option linter.unusedVariables false

/-- Of the old blocks only sg and yb have turned. -/
structure TwoB (sg yb : Nat) (w w' : World) : Prop where
  size : w.heap.size ≤ w'.heap.size
  block : ∀ k, k < w.heap.size → k ≠ sg → k ≠ yb → w'.heap[k]? = w.heap[k]?
theorem TwoB.cell {sg yb : Nat} {w w' : World} (h : TwoB sg yb w w') {b o : Nat} (hb : b < w.heap.size) (h1 : b ≠ sg) (h2 : b ≠ yb) : w'.cell? ⟨b, o, none⟩ = w.cell? ⟨b, o, none⟩ := World.cell?_of_block (w := w) (h.block b hb h1 h2)
theorem twoB_below {sg yb : Nat} {w w' : World} (h : Below w.heap.size w w') : TwoB sg yb w w' := ⟨h.size, fun k hk _ _ => h.block k hk⟩
theorem twoB_setS {sg yb i : Nat} {w : World} (v : Value) : TwoB sg yb w (w.setCell ⟨sg, i, none⟩ v) := ⟨by simp, fun k _ h1 _ => Below.heap_setCell _ _ _ _ (by exact h1)⟩
theorem twoB_setY {sg yb i : Nat} {w : World} (v : Value) : TwoB sg yb w (w.setCell ⟨yb, i, none⟩ v) := ⟨by simp, fun k _ _ h2 => Below.heap_setCell _ _ _ _ (by exact h2)⟩
/-- Fours that lie neither in block sg nor in block yb. -/
def QN (sg yb : Nat) (w : World) (a : Option Addr) (xs : List Q4) : Prop :=
  ∀ i (h : i < xs.length), ∃ b off, a = some ⟨b, off, none⟩ ∧ (b < w.heap.size ∧ b ≠ sg ∧ b ≠ yb) ∧ w.cell? ⟨b, off + i * 4, none⟩ = some (.int .i64 xs[i].1) ∧ w.cell? ⟨b, off + i * 4 + 1, none⟩ = some (.int .i64 xs[i].2.1) ∧ w.cell? ⟨b, off + i * 4 + 2, none⟩ = some (.int .i64 xs[i].2.2.1) ∧ w.cell? ⟨b, off + i * 4 + 3, none⟩ = some (.int .i64 xs[i].2.2.2)
theorem QN.quad {sg yb : Nat} {w : World} {a : Option Addr} {xs : List Q4} (h : QN sg yb w a xs) : Quad w.heap.size w a xs := fun i hi => by
  obtain ⟨b, off, e, ⟨h1, _⟩, c⟩ := h i hi
  exact ⟨b, off, e, h1, c⟩
theorem QN.two {sg yb : Nat} {w w' : World} {a : Option Addr} {xs : List Q4} (h : QN sg yb w a xs) (t : TwoB sg yb w w') : QN sg yb w' a xs := fun i hi => by
  obtain ⟨b, off, e, ⟨h1, h2, h3⟩, c0, c1, c2, c3⟩ := h i hi
  exact ⟨b, off, e, ⟨Nat.lt_of_lt_of_le h1 t.size, h2, h3⟩, (t.cell h1 h2 h3).trans c0, (t.cell h1 h2 h3).trans c1, (t.cell h1 h2 h3).trans c2, (t.cell h1 h2 h3).trans c3⟩
theorem qn_old {sg yb B : Nat} {w w' : World} {a : Option Addr} {xs : List Q4} (h : Quad B w a xs) (hb : Below B w w') (hB : B ≤ w'.heap.size) (h1 : B ≤ sg) (h2 : B ≤ yb) : QN sg yb w' a xs := fun i hi => by
  obtain ⟨b, off, e, hl, c⟩ := h.at hb i hi
  exact ⟨b, off, e, ⟨by omega, by omega, by omega⟩, c⟩
theorem qn_new {sg yb lo : Nat} {w : World} {a : Option Addr} {n c : Nat} {xs : List Q4} (h : QV w lo (.slice a n c) xs) (h1 : sg < lo) (h2 : yb < lo) : n = xs.length ∧ QN sg yb w a xs := by
  have hq := h.quad
  refine ⟨hq.1, fun i hi => ?_⟩
  obtain ⟨b, off, e, hl, cs⟩ := hq.2 i hi
  refine ⟨b, off, e, ⟨hl, ?_⟩, cs⟩
  rcases h with ⟨g, cap, e', hg, _⟩ | ⟨_, rfl⟩
  · injection e' with e1
    rw [e1] at e
    injection e with e
    injection e with e2
    omega
  · cases hi
def IN (sg yb : Nat) (w : World) (a : Option Addr) (xs : List Int) : Prop := ∀ i (h : i < xs.length), ∃ b off, a = some ⟨b, off, none⟩ ∧ (b < w.heap.size ∧ b ≠ sg ∧ b ≠ yb) ∧ w.cell? ⟨b, off + i, none⟩ = some (.int .i64 xs[i])
theorem IN.two {sg yb : Nat} {w w' : World} {a : Option Addr} {xs : List Int} (h : IN sg yb w a xs) (t : TwoB sg yb w w') : IN sg yb w' a xs := fun i hi => by
  obtain ⟨b, off, e, ⟨h1, h2, h3⟩, c⟩ := h i hi
  exact ⟨b, off, e, ⟨Nat.lt_of_lt_of_le h1 t.size, h2, h3⟩, (t.cell h1 h2 h3).trans c⟩
theorem in_old {sg yb B : Nat} {w w' : World} {a : Option Addr} {xs : List Int} (h : ISmp B w a xs) (hb : Below B w w') (hB : B ≤ w'.heap.size) (h1 : B ≤ sg) (h2 : B ≤ yb) : IN sg yb w' a xs := fun i hi => by
  obtain ⟨b, off, e, hl, c⟩ := h.at hb i hi
  exact ⟨b, off, e, ⟨by omega, by omega, by omega⟩, c⟩
/-- The law's variables: the Lend in block lb, the one that is spent from in block yb, the sums in block sg. -/
structure BS (sg yb lb : Nat) (w wr : World) (aT : Option Addr) (cT : Nat) (aO : Option Addr) (cO : Nat) (aP : Option Addr) (cP : Nat) (uT : Option Addr) (eT : Nat) (uO : Option Addr) (eO : Nat) (uP : Option Addr) (eP : Nat) (av : Option Addr) (T O P YO YP : List Q4) (vs S : List Int) : Prop where
  bel : Below w.heap.size w wr
  ls : w.heap.size ≤ sg
  ly : w.heap.size ≤ yb
  zs : sg < wr.heap.size
  zy : yb < wr.heap.size
  zl : lb < wr.heap.size
  n1 : lb ≠ sg
  n2 : lb ≠ yb
  n3 : sg ≠ yb
  c0 : wr.cell? ⟨lb, 0, none⟩ = some (.slice aT T.length cT)
  c1 : wr.cell? ⟨lb, 1, none⟩ = some (.slice aO O.length cO)
  c2 : wr.cell? ⟨lb, 2, none⟩ = some (.slice aP P.length cP)
  d0 : wr.cell? ⟨yb, 0, none⟩ = some (.slice uT T.length eT)
  d1 : wr.cell? ⟨yb, 1, none⟩ = some (.slice uO YO.length eO)
  d2 : wr.cell? ⟨yb, 2, none⟩ = some (.slice uP YP.length eP)
  df : ∀ o : Nat, wr.frozen? ⟨yb, o, none⟩ = false
  QT : QN sg yb wr aT T
  QO : QN sg yb wr aO O
  QP : QN sg yb wr aP P
  RT : QN sg yb wr uT T
  RO : QN sg yb wr uO YO
  RP : QN sg yb wr uP YP
  V : IN sg yb wr av vs
  sm : ∀ k (h : k < S.length), wr.cell? ⟨sg, k, none⟩ = some (.int .i64 S[k])
  sf : ∀ k : Nat, wr.frozen? ⟨sg, k, none⟩ = false
section
variable {sg yb lb : Nat} {w wr : World} {aT : Option Addr} {cT : Nat} {aO : Option Addr} {cO : Nat} {aP : Option Addr} {cP : Nat} {uT : Option Addr} {eT : Nat} {uO : Option Addr} {eO : Nat} {uP : Option Addr} {eP : Nat} {av : Option Addr} {T O P YO YP : List Q4} {vs S : List Int}
theorem BS.next (d : BS sg yb lb w wr aT cT aO cO aP cP uT eT uO eO uP eP av T O P YO YP vs S) {w2 : World} (h : Below wr.heap.size wr w2) : BS sg yb lb w w2 aT cT aO cO aP cP uT eT uO eO uP eP av T O P YO YP vs S :=
  have t : TwoB sg yb wr w2 := twoB_below h
  ⟨d.bel.trans (h.mono d.bel.size), d.ls, d.ly, Nat.lt_of_lt_of_le d.zs h.size, Nat.lt_of_lt_of_le d.zy h.size, Nat.lt_of_lt_of_le d.zl h.size, d.n1, d.n2, d.n3, (h.cell (by exact d.zl)).trans d.c0, (h.cell (by exact d.zl)).trans d.c1, (h.cell (by exact d.zl)).trans d.c2, (h.cell (by exact d.zy)).trans d.d0, (h.cell (by exact d.zy)).trans d.d1, (h.cell (by exact d.zy)).trans d.d2, fun o => (h.frozen (by exact d.zy)).trans (d.df o), d.QT.two t, d.QO.two t, d.QP.two t, d.RT.two t, d.RO.two t, d.RP.two t, d.V.two t, fun k hk => (h.cell (by exact d.zs)).trans (d.sm k hk), fun k => (h.frozen (by exact d.zs)).trans (d.sf k)⟩
theorem set_otherB {b c i j : Nat} {w : World} {v : Value} (h : b ≠ c) : (w.setCell ⟨c, i, none⟩ v).cell? ⟨b, j, none⟩ = w.cell? ⟨b, j, none⟩ := World.cell?_setCell_other _ _ _ _ (by intro e; injection e with e; exact h e.symm)
theorem set_otherI {b i j : Nat} {w : World} {v : Value} (h : i ≠ j) : (w.setCell ⟨b, j, none⟩ v).cell? ⟨b, i, none⟩ = w.cell? ⟨b, i, none⟩ := World.cell?_setCell_other _ _ _ _ (by intro e; injection e with _ e; exact h e.symm)
theorem BS.sum (d : BS sg yb lb w wr aT cT aO cO aP cP uT eT uO eO uP eP av T O P YO YP vs S) {k : Nat} (hk : k < S.length) (z : Int) : BS sg yb lb w (wr.setCell ⟨sg, k, none⟩ (.int .i64 z)) aT cT aO cO aP cP uT eT uO eO uP eP av T O P YO YP vs (S.set k z) := by
  have t : TwoB sg yb wr (wr.setCell ⟨sg, k, none⟩ (.int .i64 z)) := twoB_setS _
  have n1 := d.n1
  have n3 := d.n3
  refine ⟨d.bel.setCell (p := ⟨sg, k, none⟩) d.ls _, d.ls, d.ly, by simpa using d.zs, by simpa using d.zy, by simpa using d.zl, d.n1, d.n2, d.n3, (set_otherB n1).trans d.c0, (set_otherB n1).trans d.c1, (set_otherB n1).trans d.c2, (set_otherB n3.symm).trans d.d0, (set_otherB n3.symm).trans d.d1, (set_otherB n3.symm).trans d.d2, fun o => by simpa using d.df o, d.QT.two t, d.QO.two t, d.QP.two t, d.RT.two t, d.RO.two t, d.RP.two t, d.V.two t, fun i hi => ?_, fun i => by simpa using d.sf i⟩
  have hi' : i < S.length := by rw [List.length_set] at hi; exact hi
  by_cases e : k = i
  · subst e
    rw [List.getElem_set_self]
    exact World.cell?_setCell_same _ _ _ (d.sm k hk)
  · rw [List.getElem_set_ne e]
    exact (set_otherI (fun h => e h.symm)).trans (d.sm i hi')
theorem BS.yput (d : BS sg yb lb w wr aT cT aO cO aP cP uT eT uO eO uP eP av T O P YO YP vs S) {xT xO xP : Option Addr} {gT gO gP : Nat} {ZO ZP : List Q4} (h0 : QN sg yb wr xT T) (h1 : QN sg yb wr xO ZO) (h2 : QN sg yb wr xP ZP) :
    BS sg yb lb w (((wr.setCell ⟨yb, 0, none⟩ (.slice xT T.length gT)).setCell ⟨yb, 1, none⟩ (.slice xO ZO.length gO)).setCell ⟨yb, 2, none⟩ (.slice xP ZP.length gP)) aT cT aO cO aP cP xT gT xO gO xP gP av T O P ZO ZP vs S := by
  have t : TwoB sg yb wr (((wr.setCell ⟨yb, 0, none⟩ (.slice xT T.length gT)).setCell ⟨yb, 1, none⟩ (.slice xO ZO.length gO)).setCell ⟨yb, 2, none⟩ (.slice xP ZP.length gP)) := by
    refine ⟨by simp, fun k hk q1 q2 => ?_⟩
    exact ((twoB_setY (sg := sg) (yb := yb) _).block k (by simpa using hk) q1 q2).trans (((twoB_setY (sg := sg) (yb := yb) _).block k (by simpa using hk) q1 q2).trans ((twoB_setY (sg := sg) (yb := yb) _).block k hk q1 q2))
  have n2 := d.n2
  have n3 := d.n3
  refine ⟨((d.bel.setCell (p := ⟨yb, 0, none⟩) d.ly _).setCell (p := ⟨yb, 1, none⟩) d.ly _).setCell (p := ⟨yb, 2, none⟩) d.ly _, d.ls, d.ly, by simpa using d.zs, by simpa using d.zy, by simpa using d.zl, d.n1, d.n2, d.n3, ?_, ?_, ?_, ?_, ?_, ?_, fun o => by simpa using d.df o, d.QT.two t, d.QO.two t, d.QP.two t, h0.two t, h1.two t, h2.two t, d.V.two t, fun i hi => ?_, fun i => by simpa using d.sf i⟩
  · exact (set_otherB n2).trans ((set_otherB n2).trans ((set_otherB n2).trans d.c0))
  · exact (set_otherB n2).trans ((set_otherB n2).trans ((set_otherB n2).trans d.c1))
  · exact (set_otherB n2).trans ((set_otherB n2).trans ((set_otherB n2).trans d.c2))
  · exact (set_otherI (by decide)).trans ((set_otherI (by decide)).trans (World.cell?_setCell_same _ _ _ d.d0))
  · exact (set_otherI (by decide)).trans (World.cell?_setCell_same _ _ _ ((set_otherI (by decide)).trans d.d1))
  · exact World.cell?_setCell_same _ _ _ ((set_otherI (by decide)).trans ((set_otherI (by decide)).trans d.d2))
  · exact (set_otherB n3).trans ((set_otherB n3).trans ((set_otherB n3).trans (d.sm i hi)))
end
end Go.Proofs.Ytmophpbfaonfmac

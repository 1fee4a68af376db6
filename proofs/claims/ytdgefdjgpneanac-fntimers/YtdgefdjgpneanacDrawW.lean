/- The draw of a wheel: what it holds while it is made. -/
import Derived.Test.YtdgefdjgpneanacGrpC
import Derived.Test.YtdgefdjgpneanacFlat
import Derived.Test.YtdgefdjgpneanacDrawO
namespace Go.Proofs.Ytdgefdjgpneanac
open Go.ChangeShapes Go.WideShapes Go.ChangeAt Go.RowKit
set_option maxRecDepth 100000
set_option linter.unusedVariables false

/-- While a wheel is drawn: the cursor at b; of old blocks b alone has turned; block w.heap.size, the answer's; block V, the wheel so far, its list a row of its own behind V. -/
structure WSt (B : Nat) (a0 : Option Addr) (len cap b : Nat) (w wr : World) (V : Nat) (t : Int) (ua : Option Addr) (un uc : Nat) (L : List (Int × Int)) : Prop where
  cur : Cur B a0 len cap b wr
  only : Only b w wr
  lt : b < w.heap.size
  lo : w.heap.size < V
  hi : V < wr.heap.size
  r0 : wr.cell? ⟨w.heap.size, 0, none⟩ = some (.int .i64 0)
  r1 : wr.cell? ⟨w.heap.size, 1, none⟩ = some (.slice none 0 0)
  rF : ∀ o : Nat, wr.frozen? ⟨w.heap.size, o, none⟩ = false
  c0 : wr.cell? ⟨V, 0, none⟩ = some (.int .i64 t)
  c1 : wr.cell? ⟨V, 1, none⟩ = some (.slice ua un uc)
  cF : ∀ o : Nat, wr.frozen? ⟨V, o, none⟩ = false
  own : wr.ownsRow (V + 1) 87 2 (.slice ua un uc) L.length (flat L)
  le : L.length ≤ 210
  tb : -2 ≤ t ∧ t ≤ 1000000000000200
section
variable {B : Nat} {a0 : Option Addr} {len cap b : Nat} {w wr : World} {V : Nat} {t : Int} {ua : Option Addr} {un uc : Nat} {L : List (Int × Int)}
theorem WSt.draw (d : WSt B a0 len cap b w wr V t ua un uc L) {w2 : World} (o : Only b wr w2) (k : Cur B a0 len cap b w2) : WSt B a0 len cap b w w2 V t ua un uc L := by
  have l1 := d.lt
  have l2 := d.lo
  have l3 := d.hi
  have far : ∀ c i : Nat, w.heap.size ≤ c → c ≤ V → w2.cell? ⟨c, i, none⟩ = wr.cell? ⟨c, i, none⟩ := fun c i h1 h2 => o.cell (by show c < _; omega) (by show c ≠ b; omega)
  have faz : ∀ c i : Nat, w.heap.size ≤ c → c ≤ V → w2.frozen? ⟨c, i, none⟩ = wr.frozen? ⟨c, i, none⟩ := fun c i h1 h2 => o.frozen (by show c < _; omega) (by show c ≠ b; omega)
  exact ⟨k, d.only.trans o, l1, l2, Nat.lt_of_lt_of_le l3 o.size, (far _ _ (by omega) (by omega)).trans d.r0, (far _ _ (by omega) (by omega)).trans d.r1, fun i => (faz _ _ (by omega) (by omega)).trans (d.rF i),
    (far _ _ (by omega) (by omega)).trans d.c0, (far _ _ (by omega) (by omega)).trans d.c1, fun i => (faz _ _ (by omega) (by omega)).trans (d.cF i), row_only d.own o (by omega), d.le, d.tb⟩
theorem WSt.next (d : WSt B a0 len cap b w wr V t ua un uc L) {w2 : World} (h : Below wr.heap.size wr w2) : WSt B a0 len cap b w w2 V t ua un uc L := d.draw (Only.of_below h) (d.cur.mono h)
/-- A cell of V is stored over. -/
theorem WSt.old (d : WSt B a0 len cap b w wr V t ua un uc L) {w2 : World} (h : Below V wr w2) : Cur B a0 len cap b w2 ∧ Only b w w2 ∧ V < w2.heap.size ∧ w2.cell? ⟨w.heap.size, 0, none⟩ = some (.int .i64 0) ∧ w2.cell? ⟨w.heap.size, 1, none⟩ = some (.slice none 0 0) ∧ (∀ o : Nat, w2.frozen? ⟨w.heap.size, o, none⟩ = false) := by
  have l1 := d.lt
  have l2 := d.lo
  exact ⟨d.cur.under h (by omega), ⟨h.os.trans d.only.os, h.tape.trans d.only.tape, h.output.trans d.only.output, Nat.le_trans d.only.size h.size, fun k hk hn => (h.block k (by omega)).trans (d.only.block k hk hn)⟩, Nat.lt_of_lt_of_le d.hi h.size,
    (h.cell (by show w.heap.size < V; omega)).trans d.r0, (h.cell (by show w.heap.size < V; omega)).trans d.r1, fun o => (h.frozen (by show w.heap.size < V; omega)).trans (d.rF o)⟩
/-- The list is another one. -/
theorem WSt.list (d : WSt B a0 len cap b w wr V t ua un uc L) {a' : Option Addr} {n' c' : Nat} {M : List (Int × Int)} (h : wr.ownsRow (V + 1) 87 2 (.slice a' n' c') M.length (flat M)) (hm : M.length ≤ 210) :
    WSt B a0 len cap b w (wr.setCell ⟨V, 1, none⟩ (.slice a' n' c')) V t a' n' c' M := by
  obtain ⟨k1, k2, k3, k4, k5, k6⟩ := d.old ((Below.refl V wr).setCell (p := ⟨V, 1, none⟩) (Nat.le_refl _) (.slice a' n' c'))
  exact ⟨k1, k2, d.lt, d.lo, k3, k4, k5, k6, (World.cell?_setCell_other _ _ _ _ (fun e => by injection e with _ e _; omega)).trans d.c0, set_same _ d.c1, fun i => by simpa using d.cF i, row_set h (by omega), hm, d.tb⟩
/-- The time is another one. -/
theorem WSt.time (d : WSt B a0 len cap b w wr V t ua un uc L) (s : Int) (hs : -2 ≤ s ∧ s ≤ 1000000000000200) : WSt B a0 len cap b w (wr.setCell ⟨V, 0, none⟩ (.int .i64 s)) V s ua un uc L := by
  obtain ⟨k1, k2, k3, k4, k5, k6⟩ := d.old ((Below.refl V wr).setCell (p := ⟨V, 0, none⟩) (Nat.le_refl _) (.int .i64 s))
  exact ⟨k1, k2, d.lt, d.lo, k3, k4, k5, k6, set_same _ d.c0, (World.cell?_setCell_other _ _ _ _ (fun e => by injection e with _ e _; omega)).trans d.c1, fun i => by simpa using d.cF i, row_set d.own (by omega), d.le, hs⟩
/-- The whole wheel is another one. -/
theorem WSt.wheel (d : WSt B a0 len cap b w wr V t ua un uc L) (s : Int) (hs : -2 ≤ s ∧ s ≤ 1000000000000200) {a' : Option Addr} {n' c' : Nat} {M : List (Int × Int)} (h : wr.ownsRow (V + 1) 87 2 (.slice a' n' c') M.length (flat M)) (hm : M.length ≤ 210) :
    WSt B a0 len cap b w ((wr.setCell ⟨V, 0, none⟩ (.int .i64 s)).setCell ⟨V, 1, none⟩ (.slice a' n' c')) V s a' n' c' M := (d.time s hs).list (row_set h (by omega)) hm
/-- The list has grown by an append, and is stored. -/
theorem WSt.more (d : WSt B a0 len cap b w wr V t ua un uc L) {w' : World} (hg : wr.grownBy w' (Value.slice ua un uc).ownBlock) {a' : Option Addr} {n' c' : Nat} {M : List (Int × Int)} (h : w'.ownsRow (V + 1) 87 2 (.slice a' n' c') M.length (flat M)) (hm : M.length ≤ 210) :
    WSt B a0 len cap b w (w'.setCell ⟨V, 1, none⟩ (.slice a' n' c')) V t a' n' c' M := by
  have l1 := d.lt
  have l2 := d.lo
  have l3 := d.hi
  have hrow : ∀ j, (Value.slice ua un uc).ownBlock = some j → V + 1 ≤ j := fun j hj => (d.own.lt j hj).1
  have hbel : Below (V + 1) wr w' := ⟨hg.os, hg.tape, hg.output, hg.size, fun k hk => hg.block k (by omega) (fun e => by have := hrow k e.symm; omega)⟩
  have hb1 : Below V wr w' := ⟨hg.os, hg.tape, hg.output, hg.size, fun k hk => hbel.block k (by omega)⟩
  have hb2 : Below V wr (w'.setCell ⟨V, 1, none⟩ (.slice a' n' c')) := hb1.setCell (p := ⟨V, 1, none⟩) (Nat.le_refl _) _
  obtain ⟨k1, k2, k3, k4, k5, k6⟩ := d.old hb2
  have c1 : w'.cell? ⟨V, 1, none⟩ = some (.slice ua un uc) := (hbel.cell (by show V < V + 1; omega)).trans d.c1
  exact ⟨k1, k2, d.lt, d.lo, k3, k4, k5, k6, (World.cell?_setCell_other _ _ _ _ (fun e => by injection e with _ e _; omega)).trans ((hbel.cell (by show V < V + 1; omega)).trans d.c0), set_same _ c1,
    fun i => by have := (hbel.frozen (p := ⟨V, i, none⟩) (by show V < V + 1; omega)).trans (d.cF i); simpa using this, row_set h (by omega), hm, d.tb⟩
theorem WSt.kept1 (d : WSt B a0 len cap b w wr V t ua un uc L) {w' : World} (hg : wr.grownBy w' (Value.slice ua un uc).ownBlock) : w'.cell? ⟨V, 0, none⟩ = some (.int .i64 t) ∧ w'.cell? ⟨V, 1, none⟩ = some (.slice ua un uc) ∧ (∀ i : Nat, w'.frozen? ⟨V, i, none⟩ = false) := by
  have l3 := d.hi
  have hrow : ∀ j, (Value.slice ua un uc).ownBlock = some j → V + 1 ≤ j := fun j hj => (d.own.lt j hj).1
  have hbel : Below (V + 1) wr w' := ⟨hg.os, hg.tape, hg.output, hg.size, fun k hk => hg.block k (by omega) (fun e => by have := hrow k e.symm; omega)⟩
  exact ⟨(hbel.cell (by show V < V + 1; omega)).trans d.c0, (hbel.cell (by show V < V + 1; omega)).trans d.c1, fun i => (hbel.frozen (by show V < V + 1; omega)).trans (d.cF i)⟩
end
end Go.Proofs.Ytdgefdjgpneanac

/- The draw of a Place: what it holds while it is made. -/
import Derived.Test.YtoeiheccmpjclafSpecJoinO
import Derived.Test.YtoeiheccmpjclafDraws1
namespace Go.Proofs.Ytoeiheccmpjclaf
open Go.ChangeShapes Go.WideShapes Go.ChangeAt Go.RowKit
set_option maxRecDepth 100000
set_option linter.unusedVariables false
set_option linter.unusedSimpArgs false

/-- While a Place is drawn: the cursor at b; of old blocks b alone has turned; the result's block; block q, the Place so far; its list lies behind q. -/
structure D13 (B : Nat) (a0 : Option Addr) (len cap b : Nat) (w wr : World) (q : Nat) (wd fl : Int) (a : Option Addr) (n c : Nat) (ys : List Int) : Prop where
  cur : Cur B a0 len cap b wr
  only : Only b w wr
  lt : b < w.heap.size
  oq : w.heap.size < q
  res : Qc wr w.heap.size 0 0 (.slice none 0 0)
  rf : ∀ o : Nat, wr.frozen? ⟨w.heap.size, o, none⟩ = false
  plc : Qc wr q wd fl (.slice a n c)
  pf : ∀ o : Nat, wr.frozen? ⟨q, o, none⟩ = false
  own : wr.ownsRow (q + 1) 2 1 (.slice a n c) ys.length (flatI ys)
  le : ys.length ≤ 51
section
variable {B : Nat} {a0 : Option Addr} {len cap b : Nat} {w wr : World} {q : Nat} {wd fl : Int} {a : Option Addr} {n c : Nat} {ys : List Int} 
theorem D13.draw (d : D13 B a0 len cap b w wr q wd fl a n c ys) {w2 : World} (o : Only b wr w2) (k : Cur B a0 len cap b w2) : D13 B a0 len cap b w w2 q wd fl a n c ys :=
  have h1 := d.lt; have h2 := d.oq; have h3 := d.plc.z; have h4 := d.res.z
  ⟨k, d.only.trans o, d.lt, d.oq, d.res.onlyO (OnlyO.of_only o) (fun e => by injection e with e; omega), fun i => (o.frozen (by exact h4) (by show w.heap.size ≠ b; omega)).trans (d.rf i), d.plc.onlyO (OnlyO.of_only o) (fun e => by injection e with e; omega), fun i => (o.frozen (by exact h3) (by show q ≠ b; omega)).trans (d.pf i), row_only d.own o (by omega), d.le⟩
theorem D13.next (d : D13 B a0 len cap b w wr q wd fl a n c ys) {w2 : World} (h : Below wr.heap.size wr w2) : D13 B a0 len cap b w w2 q wd fl a n c ys := d.draw (Only.of_below h) (d.cur.mono h)
theorem D13.turn (d : D13 B a0 len cap b w wr q wd fl a n c ys) {w2 : World} {wd' fl' : Int} {a' : Option Addr} {n' c' : Nat} {zs : List Int} (o : Only q wr w2) (p : Qc w2 q wd' fl' (.slice a' n' c')) (pf : ∀ i : Nat, w2.frozen? ⟨q, i, none⟩ = false) (f : wr.ownsRow (q + 1) 2 1 (.slice a' n' c') zs.length (flatI zs)) (le : zs.length ≤ 51) : D13 B a0 len cap b w w2 q wd' fl' a' n' c' zs :=
  have h1 := d.lt; have h2 := d.oq; have h3 := d.plc.z; have h4 := d.res.z
  have hb : Below (w.heap.size + 1) wr w2 := o.below (by omega) (by omega)
  ⟨d.cur.under hb (by omega), ⟨o.os.trans d.only.os, o.tape.trans d.only.tape, o.output.trans d.only.output, Nat.le_trans d.only.size o.size, fun k hk hn => (o.block k (Nat.lt_of_lt_of_le hk d.only.size) (by omega)).trans (d.only.block k hk hn)⟩, d.lt, d.oq, d.res.onlyO (OnlyO.of_only o) (fun e => by injection e with e; omega), fun i => (o.frozen (by exact h4) (by show w.heap.size ≠ q; omega)).trans (d.rf i), p, pf, row_only f o (Nat.lt_succ_self _), le⟩
/-- Another block, behind q, has turned. -/
theorem D13.farO (d : D13 B a0 len cap b w wr q wd fl a n c ys) {w2 : World} {x : Option Nat} (o : OnlyO x wr w2) (hq : ∀ g, x = some g → q < g) : Cur B a0 len cap b w2 ∧ Only b w w2 ∧ Qc w2 w.heap.size 0 0 (.slice none 0 0) ∧ (∀ i : Nat, w2.frozen? ⟨w.heap.size, i, none⟩ = false) ∧ Qc w2 q wd fl (.slice a n c) ∧ (∀ i : Nat, w2.frozen? ⟨q, i, none⟩ = false) :=
  have h1 := d.lt; have h2 := d.oq; have h3 := d.plc.z; have h4 := d.res.z
  have n1 : x ≠ some w.heap.size := fun e => by have := hq _ e; omega
  have n2 : x ≠ some q := fun e => by have := hq _ e; omega
  have hb : Below (q + 1) wr w2 := o.below (fun g e => by have := hq g e; omega) (by omega)
  ⟨d.cur.under hb (by omega), ⟨o.os.trans d.only.os, o.tape.trans d.only.tape, o.output.trans d.only.output, Nat.le_trans d.only.size o.size, fun k hk hn => (o.block k (Nat.lt_of_lt_of_le hk d.only.size) (fun e => by have := hq k (by rw [e]); omega)).trans (d.only.block k hk hn)⟩, d.res.onlyO o n1, fun i => (o.frozen (by exact h4) (by exact n1)).trans (d.rf i), d.plc.onlyO o n2, fun i => (o.frozen (by exact h3) (by exact n2)).trans (d.pf i)⟩
theorem D13.far (d : D13 B a0 len cap b w wr q wd fl a n c ys) {w2 : World} {g : Nat} (o : Only g wr w2) (hq : q < g) (hn : ∀ k, (Value.slice a n c).ownBlock = some k → k ≠ g) : D13 B a0 len cap b w w2 q wd fl a n c ys := by
  obtain ⟨k1, k2, k3, k4, k5, k6⟩ := d.farO (OnlyO.of_only o) (fun k e => by injection e with e; omega)
  refine ⟨k1, k2, d.lt, d.oq, k3, k4, k5, k6, d.own.kept (row := some g) ⟨o.os, o.tape, o.output, o.size, fun k hk hn => o.block k hk (fun e => hn (by rw [e]))⟩ ?_, d.le⟩
  cases hob : (Value.slice a n c).ownBlock with
  | none => exact .inl rfl
  | some k => exact .inr (fun e => hn k hob (Option.some.inj e))
/-- Behind an append to its list: the new list is stored. -/
theorem D13.put (d : D13 B a0 len cap b w wr q wd fl a n c ys) {wx : World} {a' : Option Addr} {n' c' : Nat} {zs : List Int} (ho : OnlyO (Value.slice a n c).ownBlock wr wx) (own : wx.ownsRow (q + 1) 2 1 (.slice a' n' c') zs.length (flatI zs)) (le : zs.length ≤ 51) : D13 B a0 len cap b w (wx.setCell ⟨q, 2, none⟩ (.slice a' n' c')) q wd fl a' n' c' zs := by
  obtain ⟨k1, k2, k3, k4, k5, k6⟩ := d.farO ho (fun g e => by have := (d.own.lt g e).1; omega)
  have h1 := d.lt
  have h2 := d.oq
  have o : Only q wx (wx.setCell ⟨q, 2, none⟩ (.slice a' n' c')) := (Only.refl _ wx).setCell (p := ⟨q, 2, none⟩) rfl _
  have hb : Below (w.heap.size + 1) wx (wx.setCell ⟨q, 2, none⟩ (.slice a' n' c')) := o.below (by omega) (by have := k3.z; omega)
  refine ⟨k1.under hb (by omega), ⟨o.os.trans k2.os, o.tape.trans k2.tape, o.output.trans k2.output, Nat.le_trans k2.size o.size, fun k hk hn => (o.block k (Nat.lt_of_lt_of_le hk k2.size) (by omega)).trans (k2.block k hk hn)⟩, d.lt, d.oq, k3.onlyO (OnlyO.of_only o) (fun e => by injection e with e; omega), fun i => by simpa using k4 i, ⟨by simpa using k5.z, (set_other4 (by decide)).trans k5.c0, (set_other4 (by decide)).trans k5.c1, set_same4 _ k5.c2⟩, fun i => by simpa using k6 i, row_only own o (Nat.lt_succ_self _), le⟩
theorem D13.set_wd (d : D13 B a0 len cap b w wr q wd fl a n c ys) (z : Int) : D13 B a0 len cap b w (wr.setCell ⟨q, 0, none⟩ (.int .i64 z)) q z fl a n c ys :=
  d.turn ((Only.refl _ wr).setCell (p := ⟨q, 0, none⟩) rfl _) ⟨by simpa using d.plc.z, set_same4 _ d.plc.c0, (set_other4 (by decide)).trans d.plc.c1, (set_other4 (by decide)).trans d.plc.c2⟩ (fun o => by simpa using d.pf o) d.own d.le
theorem D13.set_fl (d : D13 B a0 len cap b w wr q wd fl a n c ys) (z : Int) : D13 B a0 len cap b w (wr.setCell ⟨q, 1, none⟩ (.int .i64 z)) q wd z a n c ys :=
  d.turn ((Only.refl _ wr).setCell (p := ⟨q, 1, none⟩) rfl _) ⟨by simpa using d.plc.z, (set_other4 (by decide)).trans d.plc.c0, set_same4 _ d.plc.c1, (set_other4 (by decide)).trans d.plc.c2⟩ (fun o => by simpa using d.pf o) d.own d.le
theorem D13.set_ms (d : D13 B a0 len cap b w wr q wd fl a n c ys) {a' : Option Addr} {n' c' : Nat} {zs : List Int} (f : wr.ownsRow (q + 1) 2 1 (.slice a' n' c') zs.length (flatI zs)) (le : zs.length ≤ 51) : D13 B a0 len cap b w (wr.setCell ⟨q, 2, none⟩ (.slice a' n' c')) q wd fl a' n' c' zs :=
  d.turn ((Only.refl _ wr).setCell (p := ⟨q, 2, none⟩) rfl _) ⟨by simpa using d.plc.z, (set_other4 (by decide)).trans d.plc.c0, (set_other4 (by decide)).trans d.plc.c1, set_same4 _ d.plc.c2⟩ (fun o => by simpa using d.pf o) f le
theorem D13.join (d : D13 B a0 len cap b w wr q wd fl a n c ys) (id : Int) : Calls Try.prog 17 #[.agg #[.int .i64 wd, .int .i64 fl, .slice a n c], .int .i64 id] wr fun e w' => ∃ (zs : List Int) (zd zf : Int) (zb : Bool), zs.length ≤ 50 ∧ AnsOT wr zs zd zf zb e w' := by
  rcases own_ints d.own with ⟨g, c', e, _, hz, f, hc⟩ | ⟨e, hy⟩
  · injection e with e1 e2 e3
    subst e1 e2 e3
    exact specJoin_some c hc (f.smp hz)
  · injection e with e1 e2 e3
    subst e1 e2 e3 hy
    exact specJoin_some (xs := []) 0 (Nat.le_refl _) (ismp_nil _ _ _)
theorem D13.cells (d : D13 B a0 len cap b w wr q wd fl a n c ys) : wr.cell? ⟨q, 0, none⟩ = some (.int .i64 wd) ∧ wr.cell? ⟨q, 1, none⟩ = some (.int .i64 fl) ∧ wr.cell? ⟨q, 2, none⟩ = some (.slice a n c) := ⟨d.plc.c0, d.plc.c1, d.plc.c2⟩
theorem d13_out (d : D13 B a0 len cap b w wr q wd fl a n c ys) : ∃ y, y = ((wr.setCell ⟨w.heap.size, 0, none⟩ (.int .i64 wd)).setCell ⟨w.heap.size, 1, none⟩ (.int .i64 fl)).setCell ⟨w.heap.size, 2, none⟩ (.slice a n c) ∧ (∀ j v, [.int .i64 wd, .int .i64 fl, .slice a n c][j]? = some v → y.cell? ⟨w.heap.size, j, none⟩ = some v) ∧ IV y w.heap.size (.slice a n c) ys ∧ Cur B a0 len cap b y ∧ Only b w y := by
  have h1 := d.lt
  have h2 := d.oq
  have h4 := d.res.z
  obtain ⟨y, ey, cs, fz, zy, hbel, o⟩ := over3 (.int .i64 wd) (.int .i64 fl) (.slice a n c) (w := wr) (g := w.heap.size) d.res.c0 d.res.c1 d.res.c2
  refine ⟨y, ey, cs, ((own_ints d.own).onlyO (OnlyO.of_only o) (fun g hg e => by have := (d.own.lt g hg).1; injection e with e; omega)).lower (by omega), d.cur.under (hbel w.heap.size (Nat.le_refl _)) h1, ?_⟩
  exact ⟨o.os.trans d.only.os, o.tape.trans d.only.tape, o.output.trans d.only.output, Nat.le_trans d.only.size o.size, fun k hk hn => (o.block k (Nat.lt_of_lt_of_le hk d.only.size) (by omega)).trans (d.only.block k hk hn)⟩
end
def P13 (B : Nat) (a0 : Option Addr) (len cap b : Nat) (w : World) (e : Ending) (w' : World) : Prop := ∃ (wd fl : Int) (a : Option Addr) (n c : Nat) (ys : List Int), e = .returned (.agg #[.int .i64 wd, .int .i64 fl, .slice a n c]) ∧ IV w' w.heap.size (.slice a n c) ys ∧ ys.length ≤ 51 ∧ Cur B a0 len cap b w' ∧ Only b w w'
theorem d13_new {B : Nat} {a0 : Option Addr} {len cap b : Nat} {w w2 : World} {wd fl : Int} {t u : TypeId} (hl : b < w.heap.size) (o2 : Only b (w.alloc (.cells #[.int .i64 0, .int .i64 0, .slice none 0 0] t)) w2) (k2 : Cur B a0 len cap b w2) :
    D13 B a0 len cap b w (w2.alloc (.cells #[.int .i64 wd, .int .i64 fl, .slice none 0 0] u)) w2.heap.size wd fl none 0 0 [] := by
  have z2 : w.heap.size + 1 ≤ w2.heap.size := by have := o2.size; simpa using this
  have hb := new_below w2 (.cells #[.int .i64 wd, .int .i64 fl, .slice none 0 0] u)
  have r : Qc w2 w.heap.size 0 0 (.slice none 0 0) := (qc_new w 0 0 (.slice none 0 0) t).onlyO (OnlyO.of_only o2) (fun e => by injection e with e; omega)
  refine ⟨k2.mono hb, ((Only.of_below (new_below w _)).trans o2).trans (Only.of_below hb), hl, by omega, r.next hb, ?_, qc_new w2 wd fl _ u, fun o => by go_simp, World.ownsRow_nil _ _ _ _, by decide⟩
  intro o
  exact (hb.frozen (by show w.heap.size < _; omega)).trans ((o2.frozen (by show w.heap.size < _; simp) (by show w.heap.size ≠ b; omega)).trans (by go_simp))
end Go.Proofs.Ytoeiheccmpjclaf

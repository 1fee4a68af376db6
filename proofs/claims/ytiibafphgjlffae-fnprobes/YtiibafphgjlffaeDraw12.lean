/- The draw of a Probe: what it holds while it is made. -/
import Derived.Test.YtiibafphgjlffaePrbVar
import Derived.Test.YtiibafphgjlffaeObsBoth
import Derived.Test.YtiibafphgjlffaeDraw3b
import Derived.Test.YtiibafphgjlffaeDraws1
import Derived.Test.YtiibafphgjlffaeDrawO
namespace Go.Proofs.Ytiibafphgjlffae
open Go.ChangeShapes Go.WideShapes Go.ChangeAt Go.RowKit
set_option maxRecDepth 100000
set_option linter.unusedVariables false
set_option linter.unusedSimpArgs false

theorem specObserve_fv {sa cy sn tp sv mt ta now rate trip flight : Int} {w : World} {lo n c : Nat} {a : Option Addr} {ys : List (Int × Int)} (h : FV w lo (.slice a n c) ys) : Calls Try.prog 44 #[.agg #[.int .i64 sa, .int .i64 cy, .int .i64 sn, .int .i64 tp, .int .i64 sv, .slice a n c, .int .i64 mt, .int .i64 ta], .int .i64 now, .int .i64 rate, .int .i64 trip, .int .i64 flight] w fun e w' => ∃ (zs : List (Int × Int)) (s : Pb), zs.length ≤ 101 ∧ AnsPost w zs s e w' := by
  obtain ⟨hn, hs⟩ := h.smp
  subst hn
  obtain ⟨zs, s, hz, _, _, hsp, _⟩ := observes sa cy sn tp sv mt ta now rate trip flight ys
  exact (hsp w a c hs).mono fun e w' k => ⟨zs, s, by omega, k⟩
/-- While a Probe is drawn: the cursor at b; of old blocks b alone has turned; the result's block; block q, the Probe so far. -/
structure D12 (B : Nat) (a0 : Option Addr) (len cap b : Nat) (w wr : World) (q : Nat) (s : Pb) (a : Option Addr) (n c : Nat) (ys : List (Int × Int)) : Prop where
  cur : Cur B a0 len cap b wr
  only : Only b w wr
  lt : b < w.heap.size
  oq : w.heap.size < q
  res : Pc wr w.heap.size ⟨0, 0, 0, 0, 0, 0, 0⟩ (.slice none 0 0)
  rf : ∀ o : Nat, wr.frozen? ⟨w.heap.size, o, none⟩ = false
  prb : Pc wr q s (.slice a n c)
  pf : ∀ o : Nat, wr.frozen? ⟨q, o, none⟩ = false
  own : ∀ g, (Value.slice a n c).ownBlock = some g → w.heap.size < g ∧ g ≠ q
  fv : FV wr w.heap.size (.slice a n c) ys
  le : ys.length ≤ 101
section
variable {B : Nat} {a0 : Option Addr} {len cap b : Nat} {w wr : World} {q : Nat} {s : Pb} {a : Option Addr} {n c : Nat} {ys : List (Int × Int)} 
theorem D12.draw (d : D12 B a0 len cap b w wr q s a n c ys) {w2 : World} (o : Only b wr w2) (k : Cur B a0 len cap b w2) : D12 B a0 len cap b w w2 q s a n c ys :=
  have h1 := d.lt; have h2 := d.oq; have h3 := d.prb.z; have h4 := d.res.z
  ⟨k, d.only.trans o, d.lt, d.oq, d.res.onlyO (OnlyO.of_only o) (fun e => by injection e with e; omega), fun i => (o.frozen (by exact h4) (by show w.heap.size ≠ b; omega)).trans (d.rf i), d.prb.onlyO (OnlyO.of_only o) (fun e => by injection e with e; omega), fun i => (o.frozen (by exact h3) (by show q ≠ b; omega)).trans (d.pf i), d.own, d.fv.onlyO (OnlyO.of_only o) (fun g hg e => by have := d.own g hg; injection e with e; omega), d.le⟩
theorem D12.next (d : D12 B a0 len cap b w wr q s a n c ys) {w2 : World} (h : Below wr.heap.size wr w2) : D12 B a0 len cap b w w2 q s a n c ys := d.draw (Only.of_below h) (d.cur.mono h)
theorem D12.turn (d : D12 B a0 len cap b w wr q s a n c ys) {w2 : World} {s' : Pb} {a' : Option Addr} {n' c' : Nat} {zs : List (Int × Int)} (o : Only q wr w2) (p : Pc w2 q s' (.slice a' n' c')) (pf : ∀ i : Nat, w2.frozen? ⟨q, i, none⟩ = false) (own : ∀ g, (Value.slice a' n' c').ownBlock = some g → w.heap.size < g ∧ g ≠ q) (f : FV wr w.heap.size (.slice a' n' c') zs) (le : zs.length ≤ 101) : D12 B a0 len cap b w w2 q s' a' n' c' zs :=
  have h1 := d.lt; have h2 := d.oq; have h3 := d.prb.z; have h4 := d.res.z
  have hb : Below (w.heap.size + 1) wr w2 := o.below (by omega) (by omega)
  ⟨d.cur.under hb (by omega), ⟨o.os.trans d.only.os, o.tape.trans d.only.tape, o.output.trans d.only.output, Nat.le_trans d.only.size o.size, fun k hk hn => (o.block k (Nat.lt_of_lt_of_le hk d.only.size) (by omega)).trans (d.only.block k hk hn)⟩, d.lt, d.oq, d.res.onlyO (OnlyO.of_only o) (fun e => by injection e with e; omega), fun i => (o.frozen (by exact h4) (by show w.heap.size ≠ q; omega)).trans (d.rf i), p, pf, own, f.onlyO (OnlyO.of_only o) (fun g hg e => by have := own g hg; injection e with e; omega), le⟩
end
section
variable {B : Nat} {a0 : Option Addr} {len cap b : Nat} {w wr : World} {q : Nat} {s : Pb} {a : Option Addr} {n c : Nat} {ys : List (Int × Int)} 
theorem D12.set_sa (d : D12 B a0 len cap b w wr q s a n c ys) (z : Int) : D12 B a0 len cap b w (wr.setCell ⟨q, 0, none⟩ (.int .i64 z)) q { s with sa := z } a n c ys :=
  d.turn (only_set3x _ _ _ _) ⟨by simpa using d.prb.z, (set_same4 _ d.prb.c0), ((set_other4 (by decide)).trans d.prb.c1), ((set_other4 (by decide)).trans d.prb.c2), ((set_other4 (by decide)).trans d.prb.c3), ((set_other4 (by decide)).trans d.prb.c4), ((set_other4 (by decide)).trans d.prb.c5), ((set_other4 (by decide)).trans d.prb.c6), ((set_other4 (by decide)).trans d.prb.c7)⟩ (fun o => by simpa using d.pf o) d.own d.fv d.le
theorem D12.set_cy (d : D12 B a0 len cap b w wr q s a n c ys) (z : Int) : D12 B a0 len cap b w (wr.setCell ⟨q, 1, none⟩ (.int .i64 z)) q { s with cy := z } a n c ys :=
  d.turn (only_set3x _ _ _ _) ⟨by simpa using d.prb.z, ((set_other4 (by decide)).trans d.prb.c0), (set_same4 _ d.prb.c1), ((set_other4 (by decide)).trans d.prb.c2), ((set_other4 (by decide)).trans d.prb.c3), ((set_other4 (by decide)).trans d.prb.c4), ((set_other4 (by decide)).trans d.prb.c5), ((set_other4 (by decide)).trans d.prb.c6), ((set_other4 (by decide)).trans d.prb.c7)⟩ (fun o => by simpa using d.pf o) d.own d.fv d.le
theorem D12.set_sn (d : D12 B a0 len cap b w wr q s a n c ys) (z : Int) : D12 B a0 len cap b w (wr.setCell ⟨q, 2, none⟩ (.int .i64 z)) q { s with sn := z } a n c ys :=
  d.turn (only_set3x _ _ _ _) ⟨by simpa using d.prb.z, ((set_other4 (by decide)).trans d.prb.c0), ((set_other4 (by decide)).trans d.prb.c1), (set_same4 _ d.prb.c2), ((set_other4 (by decide)).trans d.prb.c3), ((set_other4 (by decide)).trans d.prb.c4), ((set_other4 (by decide)).trans d.prb.c5), ((set_other4 (by decide)).trans d.prb.c6), ((set_other4 (by decide)).trans d.prb.c7)⟩ (fun o => by simpa using d.pf o) d.own d.fv d.le
theorem D12.set_tp (d : D12 B a0 len cap b w wr q s a n c ys) (z : Int) : D12 B a0 len cap b w (wr.setCell ⟨q, 3, none⟩ (.int .i64 z)) q { s with tp := z } a n c ys :=
  d.turn (only_set3x _ _ _ _) ⟨by simpa using d.prb.z, ((set_other4 (by decide)).trans d.prb.c0), ((set_other4 (by decide)).trans d.prb.c1), ((set_other4 (by decide)).trans d.prb.c2), (set_same4 _ d.prb.c3), ((set_other4 (by decide)).trans d.prb.c4), ((set_other4 (by decide)).trans d.prb.c5), ((set_other4 (by decide)).trans d.prb.c6), ((set_other4 (by decide)).trans d.prb.c7)⟩ (fun o => by simpa using d.pf o) d.own d.fv d.le
theorem D12.set_sv (d : D12 B a0 len cap b w wr q s a n c ys) (z : Int) : D12 B a0 len cap b w (wr.setCell ⟨q, 4, none⟩ (.int .i64 z)) q { s with sv := z } a n c ys :=
  d.turn (only_set3x _ _ _ _) ⟨by simpa using d.prb.z, ((set_other4 (by decide)).trans d.prb.c0), ((set_other4 (by decide)).trans d.prb.c1), ((set_other4 (by decide)).trans d.prb.c2), ((set_other4 (by decide)).trans d.prb.c3), (set_same4 _ d.prb.c4), ((set_other4 (by decide)).trans d.prb.c5), ((set_other4 (by decide)).trans d.prb.c6), ((set_other4 (by decide)).trans d.prb.c7)⟩ (fun o => by simpa using d.pf o) d.own d.fv d.le
theorem D12.set_mt (d : D12 B a0 len cap b w wr q s a n c ys) (z : Int) : D12 B a0 len cap b w (wr.setCell ⟨q, 6, none⟩ (.int .i64 z)) q { s with mt := z } a n c ys :=
  d.turn (only_set3x _ _ _ _) ⟨by simpa using d.prb.z, ((set_other4 (by decide)).trans d.prb.c0), ((set_other4 (by decide)).trans d.prb.c1), ((set_other4 (by decide)).trans d.prb.c2), ((set_other4 (by decide)).trans d.prb.c3), ((set_other4 (by decide)).trans d.prb.c4), ((set_other4 (by decide)).trans d.prb.c5), (set_same4 _ d.prb.c6), ((set_other4 (by decide)).trans d.prb.c7)⟩ (fun o => by simpa using d.pf o) d.own d.fv d.le
theorem D12.set_ta (d : D12 B a0 len cap b w wr q s a n c ys) (z : Int) : D12 B a0 len cap b w (wr.setCell ⟨q, 7, none⟩ (.int .i64 z)) q { s with ta := z } a n c ys :=
  d.turn (only_set3x _ _ _ _) ⟨by simpa using d.prb.z, ((set_other4 (by decide)).trans d.prb.c0), ((set_other4 (by decide)).trans d.prb.c1), ((set_other4 (by decide)).trans d.prb.c2), ((set_other4 (by decide)).trans d.prb.c3), ((set_other4 (by decide)).trans d.prb.c4), ((set_other4 (by decide)).trans d.prb.c5), ((set_other4 (by decide)).trans d.prb.c6), (set_same4 _ d.prb.c7)⟩ (fun o => by simpa using d.pf o) d.own d.fv d.le
theorem D12.set_f (d : D12 B a0 len cap b w wr q s a n c ys) {a' : Option Addr} {n' c' : Nat} {zs : List (Int × Int)} (own : ∀ g, (Value.slice a' n' c').ownBlock = some g → w.heap.size < g ∧ g ≠ q) (f : FV wr w.heap.size (.slice a' n' c') zs) (le : zs.length ≤ 101) : D12 B a0 len cap b w (wr.setCell ⟨q, 5, none⟩ (.slice a' n' c')) q s a' n' c' zs :=
  d.turn (only_set3x _ _ _ _) ⟨by simpa using d.prb.z, ((set_other4 (by decide)).trans d.prb.c0), ((set_other4 (by decide)).trans d.prb.c1), ((set_other4 (by decide)).trans d.prb.c2), ((set_other4 (by decide)).trans d.prb.c3), ((set_other4 (by decide)).trans d.prb.c4), (set_same4 _ d.prb.c5), ((set_other4 (by decide)).trans d.prb.c6), ((set_other4 (by decide)).trans d.prb.c7)⟩ (fun o => by simpa using d.pf o) own f le
end
def P12 (B : Nat) (a0 : Option Addr) (len cap b : Nat) (w : World) (e : Ending) (w' : World) : Prop := ∃ (s : Pb) (a : Option Addr) (n c : Nat) (ys : List (Int × Int)), e = .returned (.agg #[.int .i64 s.sa, .int .i64 s.cy, .int .i64 s.sn, .int .i64 s.tp, .int .i64 s.sv, .slice a n c, .int .i64 s.mt, .int .i64 s.ta]) ∧ FV w' w.heap.size (.slice a n c) ys ∧ ys.length ≤ 101 ∧ Cur B a0 len cap b w' ∧ Only b w w'
theorem d12_new {B : Nat} {a0 : Option Addr} {len cap b : Nat} {w w1 w2 : World} {s : Pb} {a : Option Addr} {n c : Nat} {ys : List (Int × Int)} {t u : TypeId} (hl : b < w.heap.size) (o1 : Only b (w.alloc (.cells #[.int .i64 0, .int .i64 0, .int .i64 0, .int .i64 0, .int .i64 0, .slice none 0 0, .int .i64 0, .int .i64 0] t)) w1) (h2 : Below w1.heap.size w1 w2 ∨ Only b w1 w2) (k2 : Cur B a0 len cap b w2) (f : FV w2 w1.heap.size (.slice a n c) ys) (le : ys.length ≤ 101) :
    D12 B a0 len cap b w (w2.alloc (.cells #[.int .i64 s.sa, .int .i64 s.cy, .int .i64 s.sn, .int .i64 s.tp, .int .i64 s.sv, .slice a n c, .int .i64 s.mt, .int .i64 s.ta] u)) w2.heap.size s a n c ys := by
  have o12 : Only b w1 w2 := by
    rcases h2 with h | h
    · exact Only.of_below h
    · exact h
  have o2 : Only b (w.alloc (.cells #[.int .i64 0, .int .i64 0, .int .i64 0, .int .i64 0, .int .i64 0, .slice none 0 0, .int .i64 0, .int .i64 0] t)) w2 := o1.trans o12
  have z1 : w.heap.size + 1 ≤ w1.heap.size := by have := o1.size; simpa using this
  have z2 : w1.heap.size ≤ w2.heap.size := o12.size
  have hb := new_below w2 (.cells #[.int .i64 s.sa, .int .i64 s.cy, .int .i64 s.sn, .int .i64 s.tp, .int .i64 s.sv, .slice a n c, .int .i64 s.mt, .int .i64 s.ta] u)
  have r : Pc w2 w.heap.size ⟨0, 0, 0, 0, 0, 0, 0⟩ (.slice none 0 0) := (pc_new w ⟨0, 0, 0, 0, 0, 0, 0⟩ (.slice none 0 0) t).onlyO (OnlyO.of_only o2) (fun e => by injection e with e; omega)
  refine ⟨k2.mono hb, ((Only.of_below (new_below w _)).trans o2).trans (Only.of_below hb), hl, by omega, r.next hb, ?_, pc_new w2 s _ u, fun o => by go_simp, ?_, (f.lower (by omega)).next hb, le⟩
  · intro o
    refine (hb.frozen (by show w.heap.size < _; omega)).trans ((o2.frozen (by show w.heap.size < _; simp) (by show w.heap.size ≠ b; omega)).trans (by go_simp))
  · intro g hg
    have := f.own hg
    omega
theorem d12_out {B : Nat} {a0 : Option Addr} {len cap b : Nat} {w wr : World} {q : Nat} {s : Pb} {a : Option Addr} {n c : Nat} {ys : List (Int × Int)} (d : D12 B a0 len cap b w wr q s a n c ys) : ∃ y, y = ((((((((wr.setCell ⟨w.heap.size, 0, none⟩ (.int .i64 s.sa)).setCell ⟨w.heap.size, 1, none⟩ (.int .i64 s.cy)).setCell ⟨w.heap.size, 2, none⟩ (.int .i64 s.sn)).setCell ⟨w.heap.size, 3, none⟩ (.int .i64 s.tp)).setCell ⟨w.heap.size, 4, none⟩ (.int .i64 s.sv)).setCell ⟨w.heap.size, 5, none⟩ (.slice a n c)).setCell ⟨w.heap.size, 6, none⟩ (.int .i64 s.mt)).setCell ⟨w.heap.size, 7, none⟩ (.int .i64 s.ta)) ∧ (∀ j v, [.int .i64 s.sa, .int .i64 s.cy, .int .i64 s.sn, .int .i64 s.tp, .int .i64 s.sv, .slice a n c, .int .i64 s.mt, .int .i64 s.ta][j]? = some v → y.cell? ⟨w.heap.size, j, none⟩ = some v) ∧ FV y w.heap.size (.slice a n c) ys ∧ Cur B a0 len cap b y ∧ Only b w y := by
  have h1 := d.lt
  have h4 := d.res.z
  obtain ⟨y, ey, cs, far, fz, zy, hbel, hon⟩ := over8 (.int .i64 s.sa) (.int .i64 s.cy) (.int .i64 s.sn) (.int .i64 s.tp) (.int .i64 s.sv) (.slice a n c) (.int .i64 s.mt) (.int .i64 s.ta) (w := wr) (g := w.heap.size) d.res.c0 d.res.c1 d.res.c2 d.res.c3 d.res.c4 d.res.c5 d.res.c6 d.res.c7
  refine ⟨y, ey, cs, d.fv.onlyO (OnlyO.of_only hon) (fun g hg e => by have := d.own g hg; injection e with e; omega), d.cur.under (hbel w.heap.size (Nat.le_refl _)) h1, ?_⟩
  exact ⟨hon.os.trans d.only.os, hon.tape.trans d.only.tape, hon.output.trans d.only.output, Nat.le_trans d.only.size hon.size, fun k hk hn => (hon.block k (Nat.lt_of_lt_of_le hk d.only.size) (by omega)).trans (d.only.block k hk hn)⟩
end Go.Proofs.Ytiibafphgjlffae

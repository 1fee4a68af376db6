/- The draw of a filter: what it holds while it is made. -/
import Derived.Test.YtiibafphgjlffaeFiltV
import Derived.Test.YtiibafphgjlffaeGrpC
namespace Go.Proofs.Ytiibafphgjlffae
open Go.ChangeShapes Go.WideShapes Go.ChangeAt Go.RowKit
set_option maxRecDepth 100000
set_option linter.unusedVariables false

theorem FV.smp {w : World} {lo n c : Nat} {a : Option Addr} {ys : List (Int × Int)} (h : FV w lo (.slice a n c) ys) : ys.length = n ∧ Smp w.heap.size w a ys := by
  rcases h with ⟨g, cap, e, h1, h2, f, hc⟩ | ⟨e, rfl⟩
  · injection e with e1 e2 e3
    subst e1 e2
    exact ⟨rfl, f.smp h2⟩
  · injection e with e1 e2 e3
    subst e1 e2
    exact ⟨rfl, fun i h => by cases h⟩
def PX (w : World) (e : Ending) (w' : World) : Prop := ∃ zs f a n c, e = .returned (.tuple #[.agg #[.slice a n c], .bool f]) ∧ zs.length ≤ 101 ∧ FV w' w.heap.size (.slice a n c) zs ∧ Below w.heap.size w w'
theorem specPush_fv {w : World} {lo n c : Nat} {a : Option Addr} {ys : List (Int × Int)} (h : FV w lo (.slice a n c) ys) (p q win : Int) (most : Bool) :
    Calls Try.prog 96 #[.agg #[.slice a n c], .agg #[.int .i64 p, .int .i64 q], .int .i64 win, .bool most] w (PX w) := by
  obtain ⟨hn, hs⟩ := h.smp
  subst hn
  obtain ⟨zs, f, hz, hsp, _⟩ := pushes most ys p q win
  refine (hsp w a c hs).mono ?_
  rintro e w' ⟨a', n', c', rfl, hf, hb⟩
  exact ⟨zs, f, a', n', c', rfl, hz, hf, hb⟩
/-- While a filter is drawn: the cursor at b; of old blocks b alone has turned; block R, the result; block R + 1, the filter so far. -/
structure DSt (B : Nat) (a0 : Option Addr) (len cap b : Nat) (w wr : World) (a : Option Addr) (n c : Nat) (ys : List (Int × Int)) : Prop where
  cur : Cur B a0 len cap b wr
  only : Only b w wr
  lt : b < w.heap.size
  size : w.heap.size + 1 < wr.heap.size
  res : wr.cell? ⟨w.heap.size, 0, none⟩ = some (.slice none 0 0)
  resF : wr.frozen? ⟨w.heap.size, 0, none⟩ = false
  fil : wr.cell? ⟨w.heap.size + 1, 0, none⟩ = some (.slice a n c)
  filF : wr.frozen? ⟨w.heap.size + 1, 0, none⟩ = false
  fv : FV wr (w.heap.size + 2) (.slice a n c) ys
  le : ys.length ≤ 101
section
variable {B : Nat} {a0 : Option Addr} {len cap b : Nat} {w wr : World} {a : Option Addr} {n c : Nat} {ys : List (Int × Int)}
theorem DSt.draw (d : DSt B a0 len cap b w wr a n c ys) {w2 : World} (o : Only b wr w2) (k : Cur B a0 len cap b w2) : DSt B a0 len cap b w w2 a n c ys where
  cur := k
  only := d.only.trans o
  lt := d.lt
  size := Nat.lt_of_lt_of_le d.size o.size
  res := (o.cell (by show w.heap.size < _; have := d.size; omega) (by show w.heap.size ≠ b; have := d.lt; omega)).trans d.res
  resF := (o.frozen (by show w.heap.size < _; have := d.size; omega) (by show w.heap.size ≠ b; have := d.lt; omega)).trans d.resF
  fil := (o.cell (by show w.heap.size + 1 < _; exact d.size) (by show w.heap.size + 1 ≠ b; have := d.lt; omega)).trans d.fil
  filF := (o.frozen (by show w.heap.size + 1 < _; exact d.size) (by show w.heap.size + 1 ≠ b; have := d.lt; omega)).trans d.filF
  fv := d.fv.onlyO (OnlyO.of_only o) (fun g hg e => by have := (d.fv.own hg).1; have := d.lt; injection e with e; omega)
  le := d.le
theorem DSt.next (d : DSt B a0 len cap b w wr a n c ys) {w2 : World} (h : Below wr.heap.size wr w2) : DSt B a0 len cap b w w2 a n c ys :=
  d.draw (Only.of_below h) (d.cur.mono h)
theorem DSt.put (d : DSt B a0 len cap b w wr a n c ys) {a' : Option Addr} {n' c' : Nat} {zs : List (Int × Int)} (h : FV wr (w.heap.size + 2) (.slice a' n' c') zs) (hz : zs.length ≤ 101) :
    DSt B a0 len cap b w (wr.setCell ⟨w.heap.size + 1, 0, none⟩ (.slice a' n' c')) a' n' c' zs := by
  have o : Only (w.heap.size + 1) wr (wr.setCell ⟨w.heap.size + 1, 0, none⟩ (.slice a' n' c')) := (Only.refl (w.heap.size + 1) wr).setCell (p := ⟨w.heap.size + 1, 0, none⟩) rfl _
  have hl := d.lt
  have hs := d.size
  have hbel : Below (w.heap.size + 1) wr (wr.setCell ⟨w.heap.size + 1, 0, none⟩ (.slice a' n' c')) := (Below.refl (w.heap.size + 1) wr).setCell (p := ⟨w.heap.size + 1, 0, none⟩) (Nat.le_refl _) _
  refine ⟨?_, ?_, hl, by simpa using hs, (o.cell (by show w.heap.size < _; omega) (by show w.heap.size ≠ _; omega)).trans d.res, (o.frozen (by show w.heap.size < _; omega) (by show w.heap.size ≠ _; omega)).trans d.resF,
    set_same _ d.fil, by simpa using d.filF, h.onlyO (OnlyO.of_only o) (fun g hg e => by have := (h.own hg).1; injection e with e; omega), hz⟩
  · have k := d.cur
    exact ⟨k.small, k.lo, by simpa using k.hi, (by
      obtain ⟨i, v, h0, h1, h2, h3⟩ := k.val
      have hb := k.hi
      exact ⟨i, v, (o.cell (by exact hb) (by show b ≠ _; omega)).trans h0, (o.cell (by exact hb) (by show b ≠ _; omega)).trans h1, (o.cell (by exact hb) (by show b ≠ _; omega)).trans h2, h3⟩),
      fun j => (o.frozen (by exact k.hi) (by show b ≠ _; omega)).trans (k.fr j), (fun i hi => by
      obtain ⟨xb, xo, z, e, hx, hc, hz⟩ := k.row i hi
      have h1 := k.lo
      exact ⟨xb, xo, z, e, hx, (o.cell (by show xb < _; omega) (by show xb ≠ _; omega)).trans hc, hz⟩)⟩
  · exact ⟨d.only.os, d.only.tape, d.only.output, by simpa using d.only.size, fun i hi hb => (hbel.block i (by omega)).trans (d.only.block i hi hb)⟩
theorem fill_some {w : World} {g n : Nat} (h : ∀ j, j < n * 2 → (∃ z : Int, w.cell? ⟨g, j, none⟩ = some (.int .i64 z)) ∧ w.frozen? ⟨g, j, none⟩ = false) : ∃ zs : List (Int × Int), zs.length = n ∧ Fill w g n zs n := by
  refine ⟨(List.range n).map fun i => (intVal (w.cell? ⟨g, i * 2, none⟩), intVal (w.cell? ⟨g, i * 2 + 1, none⟩)), by simp, h, ?_⟩
  intro i hi hk
  obtain ⟨⟨z0, h0⟩, _⟩ := h (i * 2) (by omega)
  obtain ⟨⟨z1, h1⟩, _⟩ := h (i * 2 + 1) (by omega)
  simp only [List.getElem_map, List.getElem_range, h0, h1, intVal]
  exact ⟨trivial, trivial⟩
/-- The items lie in a block of their own. -/
theorem FV.pos {w : World} {lo n c : Nat} {a : Option Addr} {ys : List (Int × Int)} (h : FV w lo (.slice a n c) ys) (hn : 0 < n) : ∃ g, a = some ⟨g, 0, none⟩ ∧ lo ≤ g ∧ g < w.heap.size ∧ Fill w g n ys n ∧ n ≤ c := by
  rcases h with ⟨g, cap, e, h1, h2, f, hc⟩ | ⟨e, rfl⟩
  · injection e with e1 e2 e3
    subst e1 e2 e3
    exact ⟨g, rfl, h1, h2, f, hc⟩
  · injection e with e1 e2 e3
    omega
theorem DSt.item {g j : Nat} {z : Int} (d : DSt B a0 len cap b w wr (some ⟨g, 0, none⟩) n c ys) (hn : 0 < n) (hj : j < n * 2) :
    ∃ zs, DSt B a0 len cap b w (wr.setCell ⟨g, j, none⟩ (.int .i64 z)) (some ⟨g, 0, none⟩) n c zs := by
  obtain ⟨g', e, hg0, hg1, f, hc⟩ := d.fv.pos hn
  cases e
  have o : Only g wr (wr.setCell ⟨g, j, none⟩ (.int .i64 z)) := (Only.refl g wr).setCell (p := ⟨g, j, none⟩) rfl _
  have hl := d.lt
  have hs := d.size
  have hbel : Below (w.heap.size + 2) wr (wr.setCell ⟨g, j, none⟩ (.int .i64 z)) := (Below.refl (w.heap.size + 2) wr).setCell (p := ⟨g, j, none⟩) (by show _ ≤ g; exact hg0) _
  obtain ⟨zs, hzl, fz⟩ := fill_some (w := wr.setCell ⟨g, j, none⟩ (.int .i64 z)) (g := g) (n := n) (fun i hi => by
    obtain ⟨⟨y, hy⟩, hf⟩ := f.any i hi
    refine ⟨?_, by simpa using hf⟩
    by_cases e : i = j
    · subst e; exact ⟨z, set_same _ hy⟩
    · exact ⟨y, (set_other (fun h => e h.symm)).trans hy⟩)
  have hyl := d.fv.smp.1
  refine ⟨zs, ?_, ?_, hl, by simpa using hs, (hbel.cell (by show w.heap.size < _; omega)).trans d.res, (hbel.frozen (by show w.heap.size < _; omega)).trans d.resF,
    (hbel.cell (by show w.heap.size + 1 < _; omega)).trans d.fil, (hbel.frozen (by show w.heap.size + 1 < _; omega)).trans d.filF, .inl ⟨g, c, by rw [hzl], hg0, by simpa using hg1, by rw [hzl]; exact fz, by rw [hzl]; exact hc⟩, by have := d.le; omega⟩
  · have k := d.cur
    exact ⟨k.small, k.lo, by simpa using k.hi, (by
      obtain ⟨i, v, h0, h1, h2, h3⟩ := k.val
      exact ⟨i, v, (hbel.cell (by show b < _; omega)).trans h0, (hbel.cell (by show b < _; omega)).trans h1, (hbel.cell (by show b < _; omega)).trans h2, h3⟩),
      fun j => (hbel.frozen (by show b < _; omega)).trans (k.fr j), (fun i hi => by
      obtain ⟨xb, xo, z, e, hx, hc, hz⟩ := k.row i hi
      have h1 := k.lo
      exact ⟨xb, xo, z, e, hx, (hbel.cell (by show xb < _; omega)).trans hc, hz⟩)⟩
  · exact ⟨d.only.os, d.only.tape, d.only.output, by simpa using d.only.size, fun i hi hb => (hbel.block i (by omega)).trans (d.only.block i hi hb)⟩
theorem DSt.turn (d : DSt B a0 len cap b w wr a n c ys) {w2 : World} (hb : Below (w.heap.size + 2) wr w2) {a' : Option Addr} {n' c' : Nat} {zs : List (Int × Int)} (h : FV w2 (w.heap.size + 2) (.slice a' n' c') zs) (hz : zs.length ≤ 101) :
    DSt B a0 len cap b w (w2.setCell ⟨w.heap.size + 1, 0, none⟩ (.slice a' n' c')) a' n' c' zs := by
  have o : Only (w.heap.size + 1) w2 (w2.setCell ⟨w.heap.size + 1, 0, none⟩ (.slice a' n' c')) := (Only.refl (w.heap.size + 1) w2).setCell (p := ⟨w.heap.size + 1, 0, none⟩) rfl _
  have hl := d.lt
  have hs := d.size
  have hs2 := hb.size
  have hbel : Below (w.heap.size + 1) wr (w2.setCell ⟨w.heap.size + 1, 0, none⟩ (.slice a' n' c')) := ((hb.mono (by omega)).setCell (p := ⟨w.heap.size + 1, 0, none⟩) (by show _ ≤ w.heap.size + 1; omega) _)
  refine ⟨?_, ?_, hl, by simp; omega, (hbel.cell (by show w.heap.size < _; omega)).trans d.res, (hbel.frozen (by show w.heap.size < _; omega)).trans d.resF,
    set_same (u := .slice a n c) _ ((hb.cell (by show w.heap.size + 1 < _; omega)).trans d.fil), ?_, h.onlyO (OnlyO.of_only o) (fun g hg e => by have := (h.own hg).1; injection e with e; omega), hz⟩
  · have k := d.cur
    exact ⟨k.small, k.lo, by have := k.hi; simp; omega, (by
      obtain ⟨i, v, h0, h1, h2, h3⟩ := k.val
      exact ⟨i, v, (hbel.cell (by show b < _; omega)).trans h0, (hbel.cell (by show b < _; omega)).trans h1, (hbel.cell (by show b < _; omega)).trans h2, h3⟩),
      fun j => (hbel.frozen (by show b < _; omega)).trans (k.fr j), (fun i hi => by
      obtain ⟨xb, xo, z, e, hx, hc, hz⟩ := k.row i hi
      have h1 := k.lo
      exact ⟨xb, xo, z, e, hx, (hbel.cell (by show xb < _; omega)).trans hc, hz⟩)⟩
  · have := d.only.size
    exact ⟨hb.os.trans d.only.os, hb.tape.trans d.only.tape, hb.output.trans d.only.output, by simp; omega, fun i hi hb => (hbel.block i (by omega)).trans (d.only.block i hi hb)⟩
  · have := (hb.frozen (p := ⟨w.heap.size + 1, 0, none⟩) (by show w.heap.size + 1 < _; omega)).trans d.filF
    simpa using this
theorem own_only {wr w2 : World} {base : Nat} {t : TypeId} {v : Value} {m : Nat} {l : List Value} (h : wr.ownsRow base t 2 v m l) (o : Only b wr w2) (hb : b < base) : w2.ownsRow base t 2 v m l := by
  refine ⟨h.1, ?_⟩
  rcases h.2 with e | ⟨g, cp, cur, rfl, h1, h2, h3⟩
  · exact .inl e
  · have hg : g < wr.heap.size := (h.lt g rfl).2
    exact .inr ⟨g, cp, cur, rfl, h1, (o.block g hg (by omega)).trans h2, h3⟩
theorem own_fv {wr : World} {base : Nat} {v : Value} {zs : List (Int × Int)} (h : wr.ownsRow base 87 2 v zs.length (flat zs)) : ∃ a n c, v = .slice a n c ∧ FV wr base (.slice a n c) zs := by
  by_cases hn : v = .slice none 0 0
  · rcases h.2 with ⟨_, e⟩ | ⟨g, cp, cur, e, _⟩
    · exact ⟨none, 0, 0, hn, .inr ⟨rfl, List.eq_nil_of_length_eq_zero e⟩⟩
    · rw [e] at hn; cases hn
  · obtain ⟨g, cp, rfl, h1, h2, f, hc⟩ := own_fill h hn
    exact ⟨_, _, _, rfl, .inl ⟨g, cp, rfl, h1, h2, f, hc⟩⟩
theorem DSt.done (d : DSt B a0 len cap b w wr a n c ys) : FV (wr.setCell ⟨w.heap.size, 0, none⟩ (.slice a n c)) w.heap.size (.slice a n c) ys ∧ Cur B a0 len cap b (wr.setCell ⟨w.heap.size, 0, none⟩ (.slice a n c)) ∧ Only b w (wr.setCell ⟨w.heap.size, 0, none⟩ (.slice a n c)) := by
  have o : Only w.heap.size wr (wr.setCell ⟨w.heap.size, 0, none⟩ (.slice a n c)) := (Only.refl w.heap.size wr).setCell (p := ⟨w.heap.size, 0, none⟩) rfl _
  have hl := d.lt
  have hbel : Below w.heap.size wr (wr.setCell ⟨w.heap.size, 0, none⟩ (.slice a n c)) := (Below.refl w.heap.size wr).setCell (p := ⟨w.heap.size, 0, none⟩) (Nat.le_refl _) _
  refine ⟨(d.fv.onlyO (OnlyO.of_only o) (fun g hg e => by have := (d.fv.own hg).1; injection e with e; omega)).lower (by omega), ?_, ?_⟩
  · have k := d.cur
    exact ⟨k.small, k.lo, by simpa using k.hi, (by
      obtain ⟨i, v, h0, h1, h2, h3⟩ := k.val
      exact ⟨i, v, (hbel.cell (by show b < _; omega)).trans h0, (hbel.cell (by show b < _; omega)).trans h1, (hbel.cell (by show b < _; omega)).trans h2, h3⟩),
      fun j => (hbel.frozen (by show b < _; omega)).trans (k.fr j), (fun i hi => by
      obtain ⟨xb, xo, z, e, hx, hc, hz⟩ := k.row i hi
      have h1 := k.lo
      exact ⟨xb, xo, z, e, hx, (hbel.cell (by show xb < _; omega)).trans hc, hz⟩)⟩
  · exact ⟨d.only.os, d.only.tape, d.only.output, by simpa using d.only.size, fun i hi hb => (hbel.block i (by omega)).trans (d.only.block i hi hb)⟩
theorem below_cells' {k : Nat} {w w' : World} (h : Below k w w') : ∀ b o : Nat, b < k → w'.cell? ⟨b, o, none⟩ = w.cell? ⟨b, o, none⟩ := fun b o hb => h.cell (by exact hb)
theorem below_frozens' {k : Nat} {w w' : World} (h : Below k w w') : ∀ b o : Nat, b < k → w'.frozen? ⟨b, o, none⟩ = w.frozen? ⟨b, o, none⟩ := fun b o hb => h.frozen (by exact hb)
theorem only_cells {w w' : World} (h : Only b w w') : ∀ k o : Nat, k < w.heap.size → k ≠ b → w'.cell? ⟨k, o, none⟩ = w.cell? ⟨k, o, none⟩ := fun k o h1 h2 => h.cell (by exact h1) (by exact h2)
theorem only_frozens {w w' : World} (h : Only b w w') : ∀ k o : Nat, k < w.heap.size → k ≠ b → w'.frozen? ⟨k, o, none⟩ = w.frozen? ⟨k, o, none⟩ := fun k o h1 h2 => h.frozen (by exact h1) (by exact h2)
/-- Behind a Push: the variable that holds what it handed back, the flag. -/
def D6 (B : Nat) (a0 : Option Addr) (len cap b : Nat) (w : World) (a : Option Addr) (n c : Nat) (ys : List (Int × Int)) (s t : Value) (wd : World) : Prop :=
  ∃ b8 f a' n' c' zs, s = .pointer (some ⟨b8, 0, none⟩) ∧ t = .bool f ∧ DSt B a0 len cap b w wd a n c ys ∧ b8 < wd.heap.size ∧ w.heap.size + 2 ≤ b8 ∧ wd.cell? ⟨b8, 0, none⟩ = some (.slice a' n' c') ∧ FV wd (w.heap.size + 2) (.slice a' n' c') zs ∧ zs.length ≤ 101
theorem d6_alloc {a' : Option Addr} {n' c' lo : Nat} {zs : List (Int × Int)} {f : Bool} {t : TypeId} (d : DSt B a0 len cap b w wr a n c ys) (h : FV wr lo (.slice a' n' c') zs) (hl : w.heap.size + 2 ≤ lo) (hz : zs.length ≤ 101) :
    D6 B a0 len cap b w a n c ys (.pointer (some ⟨wr.heap.size, 0, none⟩)) (.bool f) (wr.alloc (.cells #[.slice a' n' c'] t)) :=
  ⟨wr.heap.size, f, a', n', c', zs, rfl, rfl, d.next (new_below _ _), by simp, (by have := d.size; omega), by go_simp, (h.lower hl).next (new_below _ _), hz⟩
theorem d6_set {a' : Option Addr} {n' c' lo k : Nat} {zs : List (Int × Int)} {f : Bool} {u : Value} (d : DSt B a0 len cap b w wr a n c ys) (h : FV wr lo (.slice a' n' c') zs) (hz : zs.length ≤ 101) (hk : w.heap.size + 2 ≤ k) (hkl : k < lo) (hc : wr.cell? ⟨k, 0, none⟩ = some u)
    (ho : ∀ g, (Value.slice a n c).ownBlock = some g → g ≠ k) : D6 B a0 len cap b w a n c ys (.pointer (some ⟨k, 0, none⟩)) (.bool f) (wr.setCell ⟨k, 0, none⟩ (.slice a' n' c')) := by
  have hbel : Below (w.heap.size + 2) wr (wr.setCell ⟨k, 0, none⟩ (.slice a' n' c')) := (Below.refl (w.heap.size + 2) wr).setCell (p := ⟨k, 0, none⟩) (by show _ ≤ k; exact hk) _
  have o : Only k wr (wr.setCell ⟨k, 0, none⟩ (.slice a' n' c')) := (Only.refl k wr).setCell (p := ⟨k, 0, none⟩) rfl _
  have hkw : k < wr.heap.size := World.block_lt_of_cell? wr _ hc
  have hl := d.lt
  refine ⟨k, f, a', n', c', zs, rfl, rfl, ?_, by simpa using hkw, hk, set_same _ hc, (h.lower (by omega)).onlyO (OnlyO.of_only o) (fun g hg e => by have := (h.own hg).1; injection e with e; omega), hz⟩
  refine ⟨?_, ?_, hl, by simpa using d.size, (hbel.cell (by show w.heap.size < _; omega)).trans d.res, (hbel.frozen (by show w.heap.size < _; omega)).trans d.resF,
    (hbel.cell (by show w.heap.size + 1 < _; omega)).trans d.fil, (hbel.frozen (by show w.heap.size + 1 < _; omega)).trans d.filF, d.fv.onlyO (OnlyO.of_only o) (fun g hg e => by injection e with e; exact ho g hg e.symm), d.le⟩
  · have k := d.cur
    exact ⟨k.small, k.lo, by simpa using k.hi, (by
      obtain ⟨i, v, h0, h1, h2, h3⟩ := k.val
      exact ⟨i, v, (hbel.cell (by show b < _; omega)).trans h0, (hbel.cell (by show b < _; omega)).trans h1, (hbel.cell (by show b < _; omega)).trans h2, h3⟩),
      fun j => (hbel.frozen (by show b < _; omega)).trans (k.fr j), (fun i hi => by
      obtain ⟨xb, xo, z, e, hx, hc, hz⟩ := k.row i hi
      have h1 := k.lo
      exact ⟨xb, xo, z, e, hx, (hbel.cell (by show xb < _; omega)).trans hc, hz⟩)⟩
  · exact ⟨d.only.os, d.only.tape, d.only.output, by simpa using d.only.size, fun i hi hb => (hbel.block i (by omega)).trans (d.only.block i hi hb)⟩
end
def LPost (B : Nat) (a0 : Option Addr) (len cap b : Nat) (w : World) (e : Ending) (w' : World) : Prop := ∃ a n c ys, e = .returned (.agg #[.slice a n c]) ∧ FV w' w.heap.size (.slice a n c) ys ∧ ys.length ≤ 101 ∧ Cur B a0 len cap b w' ∧ Only b w w'
theorem dst_start {B : Nat} {a0 : Option Addr} {len cap b : Nat} {w : World} {t : TypeId} (k : Cur B a0 len cap b w) : DSt B a0 len cap b w ((w.alloc (.cells #[.slice none 0 0] t)).alloc (.cells #[.slice none 0 0] t)) none 0 0 [] :=
  ⟨(k.alloc _).alloc _, ((Only.refl b w).alloc _).alloc _, k.hi, by simp, by go_simp, by go_simp, by go_simp, by go_simp, .inr ⟨rfl, rfl⟩, by simp⟩
end Go.Proofs.Ytiibafphgjlffae

/- The draw of a filter, a sample, a window and a flag. -/
import Derived.Test.YtmophpbfaonfmabDraw3c
import Derived.Test.YtmophpbfaonfmabDrawO
import Derived.Test.YtmophpbfaonfmabLate
import Derived.Deep.CutBlock
namespace Go.Proofs.Ytmophpbfaonfmab
open Go.ChangeShapes Go.WideShapes Go.ChangeAt Go.RowKit
set_option maxRecDepth 100000
set_option linter.unusedVariables false
set_option linter.unusedSimpArgs false

section
variable {P : Program}
theorem results_cctt {fn : Func} {p p2 u1 u2 : Tmp} {ty ty2 : TypeId} (h : fn.results = #[.cell p ty, .cell p2 ty2, .tmp u1, .tmp u2]) (tmps : Array Value) (w : World) (g g2 : Nat) (cs cs2 : List Value) {d : TypeDesc}
    (hp : tmps.getD p undef = .pointer (some ⟨g, 0, none⟩)) (hc : ∀ j v, cs[j]? = some v → w.cell? ⟨g, j, none⟩ = some v)
    (hu : P.underlying ty = some d) (hd : (match d with | .struct _ | .array _ _ => true | _ => false) = true) (hi : (P.info? ty).map (·.size) = some cs.length)
    (hp2 : tmps.getD p2 undef = .pointer (some ⟨g2, 0, none⟩)) (hl2 : (loadVar ty2 ⟨g2, 0, none⟩).run P w = .ok (.agg cs2.toArray) w) :
    (results fn tmps).run P w = .ok (.tuple #[.agg cs.toArray, .agg cs2.toArray, tmps.getD u1 undef, tmps.getD u2 undef]) w := by
  have hp' : tmps[p]?.getD undef = .pointer (some ⟨g, 0, none⟩) := by simpa using hp
  have hp2' : tmps[p2]?.getD undef = .pointer (some ⟨g2, 0, none⟩) := by simpa using hp2
  have hl := loadVar_cells (P := P) w g 0 ty cs (fun j v hv => by rw [Nat.zero_add]; exact hc j v hv) hu hd hi
  simp [results, h, hp', hp2', asAddr, hl, hl2, Sem.run_bind, Result.andThen]
end
/-- The two results' places, as they were made; the cursor behind them. -/
structure R3 (b : Nat) (w wr : World) : Prop where
  bel : Below w.heap.size w wr
  o1 : w.heap.size + 1 < b
  hi : b < wr.heap.size
  r0 : wr.cell? ⟨w.heap.size, 0, none⟩ = some (.slice none 0 0)
  rf : ∀ o : Nat, wr.frozen? ⟨w.heap.size, o, none⟩ = false
  t0 : wr.cell? ⟨w.heap.size + 1, 0, none⟩ = some (.int .i64 0)
  t1 : wr.cell? ⟨w.heap.size + 1, 1, none⟩ = some (.int .i64 0)
  tf : ∀ o : Nat, wr.frozen? ⟨w.heap.size + 1, o, none⟩ = false
theorem R3.under {b V : Nat} {w wr w2 : World} (r : R3 b w wr) (h : Below V wr w2) (hV : b ≤ V) : R3 b w w2 :=
  have h1 := r.o1; have h2 := r.hi
  ⟨r.bel.trans (h.mono (by omega)), r.o1, Nat.lt_of_lt_of_le r.hi h.size, (h.cell (by show w.heap.size < V; omega)).trans r.r0, fun o => (h.frozen (by show w.heap.size < V; omega)).trans (r.rf o), (h.cell (by show w.heap.size + 1 < V; omega)).trans r.t0, (h.cell (by show w.heap.size + 1 < V; omega)).trans r.t1, fun o => (h.frozen (by show w.heap.size + 1 < V; omega)).trans (r.tf o)⟩
theorem R3.only {b : Nat} {w wr w2 : World} (r : R3 b w wr) (o : Only b wr w2) : R3 b w w2 := r.under (o.below (Nat.le_refl _) (Nat.le_of_lt r.hi)) (Nat.le_refl _)
/-- While filter and sample are drawn: the filter in block fb, the sample in block sb. -/
structure P3 (B : Nat) (a0 : Option Addr) (len cap b : Nat) (w wr : World) (a : Option Addr) (n c : Nat) (ys : List (Int × Int)) (fb sb : Nat) (p q : Int) : Prop where
  cur : Cur B a0 len cap b wr
  rs : R3 b w wr
  own : ∀ g, (Value.slice a n c).ownBlock = some g → b < g ∧ g < fb
  o3 : b < fb
  o4 : fb < sb
  o5 : sb < wr.heap.size
  f0 : wr.cell? ⟨fb, 0, none⟩ = some (.slice a n c)
  s0 : wr.cell? ⟨sb, 0, none⟩ = some (.int .i64 p)
  s1 : wr.cell? ⟨sb, 1, none⟩ = some (.int .i64 q)
  sf : ∀ o : Nat, wr.frozen? ⟨sb, o, none⟩ = false
  fv : FV wr w.heap.size (.slice a n c) ys
  ln : ys.length ≤ 101
section
variable {B : Nat} {a0 : Option Addr} {len cap b : Nat} {w wr : World} {a : Option Addr} {n c : Nat} {ys : List (Int × Int)} {fb sb : Nat} {p q : Int}
theorem P3.draw (d : P3 B a0 len cap b w wr a n c ys fb sb p q) {w2 : World} (o : Only b wr w2) (k : Cur B a0 len cap b w2) : P3 B a0 len cap b w w2 a n c ys fb sb p q :=
  have h3 := d.o3; have h4 := d.o4; have h5 := d.o5
  ⟨k, d.rs.only o, d.own, d.o3, d.o4, Nat.lt_of_lt_of_le d.o5 o.size, (o.cell (by show fb < _; omega) (by show fb ≠ b; omega)).trans d.f0, (o.cell (by exact h5) (by show sb ≠ b; omega)).trans d.s0, (o.cell (by exact h5) (by show sb ≠ b; omega)).trans d.s1, fun i => (o.frozen (by exact h5) (by show sb ≠ b; omega)).trans (d.sf i), d.fv.onlyO (OnlyO.of_only o) (fun g hg e => by have := (d.own g hg).1; injection e with e; omega), d.ln⟩
theorem P3.next (d : P3 B a0 len cap b w wr a n c ys fb sb p q) {w2 : World} (h : Below wr.heap.size wr w2) : P3 B a0 len cap b w w2 a n c ys fb sb p q := d.draw (Only.of_below h) (d.cur.mono h)
theorem P3.turn (d : P3 B a0 len cap b w wr a n c ys fb sb p q) {w2 : World} {p' q' : Int} (o : Only sb wr w2) (s0 : w2.cell? ⟨sb, 0, none⟩ = some (.int .i64 p')) (s1 : w2.cell? ⟨sb, 1, none⟩ = some (.int .i64 q')) (sf : ∀ o : Nat, w2.frozen? ⟨sb, o, none⟩ = false) : P3 B a0 len cap b w w2 a n c ys fb sb p' q' :=
  have h3 := d.o3; have h4 := d.o4; have h5 := d.o5
  have hb : Below sb wr w2 := o.below (Nat.le_refl _) (Nat.le_of_lt d.o5)
  ⟨d.cur.under hb (by omega), d.rs.under hb (by omega), d.own, d.o3, d.o4, Nat.lt_of_lt_of_le d.o5 o.size, (o.cell (by show fb < _; omega) (by show fb ≠ sb; omega)).trans d.f0, s0, s1, sf, d.fv.onlyO (OnlyO.of_only o) (fun g hg e => by have := (d.own g hg).2; injection e with e; omega), d.ln⟩
theorem only_set3 (w : World) (g i : Nat) (v : Value) : Only g w (w.setCell ⟨g, i, none⟩ v) := (Only.refl g w).setCell (p := ⟨g, i, none⟩) rfl _
theorem P3.set0 (d : P3 B a0 len cap b w wr a n c ys fb sb p q) (z : Int) : P3 B a0 len cap b w (wr.setCell ⟨sb, 0, none⟩ (.int .i64 z)) a n c ys fb sb z q :=
  d.turn (only_set3 _ _ _ _) (set_same _ d.s0) ((set_other (by decide)).trans d.s1) (fun o => by simpa using d.sf o)
theorem P3.set1 (d : P3 B a0 len cap b w wr a n c ys fb sb p q) (z : Int) : P3 B a0 len cap b w (wr.setCell ⟨sb, 1, none⟩ (.int .i64 z)) a n c ys fb sb p z :=
  d.turn (only_set3 _ _ _ _) ((set_other (by decide)).trans d.s0) (set_same _ d.s1) (fun o => by simpa using d.sf o)
theorem P3.done (d : P3 B a0 len cap b w wr a n c ys fb sb p q) : (((wr.setCell ⟨w.heap.size, 0, none⟩ (.slice a n c)).setCell ⟨w.heap.size + 1, 0, none⟩ (.int .i64 p)).setCell ⟨w.heap.size + 1, 1, none⟩ (.int .i64 q)).drew.cell? ⟨w.heap.size, 0, none⟩ = some (.slice a n c) ∧ (((wr.setCell ⟨w.heap.size, 0, none⟩ (.slice a n c)).setCell ⟨w.heap.size + 1, 0, none⟩ (.int .i64 p)).setCell ⟨w.heap.size + 1, 1, none⟩ (.int .i64 q)).drew.cell? ⟨w.heap.size + 1, 0, none⟩ = some (.int .i64 p) ∧ (((wr.setCell ⟨w.heap.size, 0, none⟩ (.slice a n c)).setCell ⟨w.heap.size + 1, 0, none⟩ (.int .i64 p)).setCell ⟨w.heap.size + 1, 1, none⟩ (.int .i64 q)).drew.cell? ⟨w.heap.size + 1, 1, none⟩ = some (.int .i64 q) ∧ FV (((wr.setCell ⟨w.heap.size, 0, none⟩ (.slice a n c)).setCell ⟨w.heap.size + 1, 0, none⟩ (.int .i64 p)).setCell ⟨w.heap.size + 1, 1, none⟩ (.int .i64 q)).drew w.heap.size (.slice a n c) ys ∧ Below w.heap.size w (((wr.setCell ⟨w.heap.size, 0, none⟩ (.slice a n c)).setCell ⟨w.heap.size + 1, 0, none⟩ (.int .i64 p)).setCell ⟨w.heap.size + 1, 1, none⟩ (.int .i64 q)).drew := by
  have h1 := d.rs.o1
  have q1 : Only w.heap.size wr (wr.setCell ⟨w.heap.size, 0, none⟩ (.slice a n c)) := only_set3 _ _ _ _
  have q2 : Only (w.heap.size + 1) (wr.setCell ⟨w.heap.size, 0, none⟩ (.slice a n c)) (((wr.setCell ⟨w.heap.size, 0, none⟩ (.slice a n c)).setCell ⟨w.heap.size + 1, 0, none⟩ (.int .i64 p)).setCell ⟨w.heap.size + 1, 1, none⟩ (.int .i64 q)) := (only_set3 _ _ _ _).trans (only_set3 _ _ _ _)
  have hhi := d.rs.hi
  have f1 := d.fv.onlyO (OnlyO.of_only q1) (fun g hg e => by have := (d.own g hg).1; injection e with e; omega)
  have f2 := f1.onlyO (OnlyO.of_only q2) (fun g hg e => by have := (d.own g hg).1; injection e with e; omega)
  have r0' := d.rs.r0
  have t0' : (wr.setCell ⟨w.heap.size, 0, none⟩ (.slice a n c)).cell? ⟨w.heap.size + 1, 0, none⟩ = some (.int .i64 0) := (q1.cell (by show w.heap.size + 1 < wr.heap.size; omega) (by show w.heap.size + 1 ≠ _; omega)).trans d.rs.t0
  have t1' : (wr.setCell ⟨w.heap.size, 0, none⟩ (.slice a n c)).cell? ⟨w.heap.size + 1, 1, none⟩ = some (.int .i64 0) := (q1.cell (by show w.heap.size + 1 < wr.heap.size; omega) (by show w.heap.size + 1 ≠ _; omega)).trans d.rs.t1
  have e0 : (((wr.setCell ⟨w.heap.size, 0, none⟩ (.slice a n c)).setCell ⟨w.heap.size + 1, 0, none⟩ (.int .i64 p)).setCell ⟨w.heap.size + 1, 1, none⟩ (.int .i64 q)).cell? ⟨w.heap.size, 0, none⟩ = some (.slice a n c) := (q2.cell (by simp; omega) (by show w.heap.size ≠ _; omega)).trans (set_same _ r0')
  have e1 : (((wr.setCell ⟨w.heap.size, 0, none⟩ (.slice a n c)).setCell ⟨w.heap.size + 1, 0, none⟩ (.int .i64 p)).setCell ⟨w.heap.size + 1, 1, none⟩ (.int .i64 q)).cell? ⟨w.heap.size + 1, 0, none⟩ = some (.int .i64 p) := (set_other (by decide)).trans (set_same _ t0')
  have e2 : (((wr.setCell ⟨w.heap.size, 0, none⟩ (.slice a n c)).setCell ⟨w.heap.size + 1, 0, none⟩ (.int .i64 p)).setCell ⟨w.heap.size + 1, 1, none⟩ (.int .i64 q)).cell? ⟨w.heap.size + 1, 1, none⟩ = some (.int .i64 q) := set_same _ ((set_other (by decide)).trans t1')
  have e4 : Below w.heap.size w (((wr.setCell ⟨w.heap.size, 0, none⟩ (.slice a n c)).setCell ⟨w.heap.size + 1, 0, none⟩ (.int .i64 p)).setCell ⟨w.heap.size + 1, 1, none⟩ (.int .i64 q)) := ((d.rs.bel.setCell (p := ⟨w.heap.size, 0, none⟩) (Nat.le_refl _) _).setCell (p := ⟨w.heap.size + 1, 0, none⟩) (by simp) _).setCell (p := ⟨w.heap.size + 1, 1, none⟩) (by simp) _
  exact ⟨e0, e1, e2, f2.next (Below.refl _ _).drew, e4.drew⟩
end
def DPPost (w : World) (e : Ending) (w' : World) : Prop := ∃ (a : Option Addr) (n c : Nat) (ys : List (Int × Int)) (p q win : Int) (most : Bool), e = .returned (.tuple #[.agg #[.slice a n c], .agg #[.int .i64 p, .int .i64 q], .int .i64 win, .bool most]) ∧ FV w' w.heap.size (.slice a n c) ys ∧ ys.length ≤ 101 ∧ Below w.heap.size w w'
theorem r3_new {w w1 : World} {b : Nat} {t u : TypeId} (hb : w.heap.size + 2 ≤ b) (hi : b < w1.heap.size) (h : Below ((w.alloc (.cells #[.slice none 0 0] t)).alloc (.cells #[.int .i64 0, .int .i64 0] u)).heap.size ((w.alloc (.cells #[.slice none 0 0] t)).alloc (.cells #[.int .i64 0, .int .i64 0] u)) w1) : R3 b w w1 :=
  ⟨below_step (w := w) (by go_grown) h, by omega, hi, (below_cells h w.heap.size 0 (by simp; omega)).trans (by go_simp), fun o => (below_frozens h w.heap.size o (by simp; omega)).trans (by go_simp), (below_cells h (w.heap.size + 1) 0 (by simp)).trans (by go_simp), (below_cells h (w.heap.size + 1) 1 (by simp)).trans (by go_simp), fun o => (below_frozens h (w.heap.size + 1) o (by simp)).trans (by go_simp)⟩
theorem p3_new {B : Nat} {a0 : Option Addr} {len cap b : Nat} {w w2 w3 w5 : World} {a : Option Addr} {n c : Nat} {ys : List (Int × Int)} {p q : Int} {t u : TypeId} (r : R3 b w w2) (o3 : Only b w2 w3) (f : FV w3 w2.heap.size (.slice a n c) ys) (hl : ys.length ≤ 101) (o5 : Only b (w3.alloc (.cells #[.slice a n c] t)) w5) (k5 : Cur B a0 len cap b w5) :
    P3 B a0 len cap b w (w5.alloc (.cells #[.int .i64 p, .int .i64 q] u)) a n c ys w3.heap.size w5.heap.size p q := by
  have z2 := r.hi
  have z3 := o3.size
  have z5 : w3.heap.size + 1 ≤ w5.heap.size := by have := o5.size; simpa using this
  have hw := r.bel.size
  have hown : ∀ g, (Value.slice a n c).ownBlock = some g → b < g ∧ g < w3.heap.size := fun g hg => by have := f.own hg; omega
  have hb5 : Below w5.heap.size w5 (w5.alloc (.cells #[.int .i64 p, .int .i64 q] u)) := by go_grown
  have f3 : FV (w3.alloc (.cells #[.slice a n c] t)) w.heap.size (.slice a n c) ys := (f.lower (by omega)).next (by go_grown)
  have f5 : FV w5 w.heap.size (.slice a n c) ys := f3.onlyO (OnlyO.of_only o5) (fun g hg e => by have := (hown g hg).1; injection e with e; omega)
  refine ⟨k5.mono hb5, ((((r.only o3).only (Only.of_below (by go_grown : Below w3.heap.size w3 (w3.alloc (.cells #[.slice a n c] t))))).only o5)).under hb5 (by omega), hown, by omega, by omega, by simp, ?_, by go_simp, by go_simp, fun o => by go_simp, f5.next hb5, hl⟩
  refine (hb5.cell (by show w3.heap.size < _; omega)).trans ((o5.cell (by simp) (by show w3.heap.size ≠ b; omega)).trans (by go_simp))
theorem smpTab_in (X : Nat) (h : X < 4) : ∃ y z : Int, (#[Value.int IntKind.i64 (-1), Value.int IntKind.i64 0, Value.int IntKind.i64 1000000000000001, Value.int IntKind.i64 0, Value.int IntKind.i64 9000, Value.int IntKind.i64 (-1), Value.int IntKind.i64 9000, Value.int IntKind.i64 1000000000001] : Array Value)[X * 2]? = some (.int .i64 y) ∧ (#[Value.int IntKind.i64 (-1), Value.int IntKind.i64 0, Value.int IntKind.i64 1000000000000001, Value.int IntKind.i64 0, Value.int IntKind.i64 9000, Value.int IntKind.i64 (-1), Value.int IntKind.i64 9000, Value.int IntKind.i64 1000000000001] : Array Value)[X * 2 + 1]? = some (.int .i64 z) := by
  match X, h with
  | 0, _ => exact ⟨_, _, rfl, rfl⟩
  | 1, _ => exact ⟨_, _, rfl, rfl⟩
  | 2, _ => exact ⟨_, _, rfl, rfl⟩
  | 3, _ => exact ⟨_, _, rfl, rfl⟩
theorem winTab_in (X : Nat) (h : X < 4) : ∃ y : Int, (#[Value.int IntKind.i64 (-1), Value.int IntKind.i64 0, Value.int IntKind.i64 1000000000000000, Value.int IntKind.i64 1000000000000001] : Array Value)[X]? = some (.int .i64 y) := by
  match X, h with
  | 0, _ => exact ⟨_, rfl⟩
  | 1, _ => exact ⟨_, rfl⟩
  | 2, _ => exact ⟨_, rfl⟩
  | 3, _ => exact ⟨_, rfl⟩
set_option maxHeartbeats 16000000 in
theorem drawPush_any {B : Nat} {a0 : Option Addr} {len : Nat} (cap : Nat) {w : World} (hs : len ≤ 4096) (row : Row B a0 len w) (hB : B ≤ w.heap.size) :
    Calls Try.prog 18 #[.slice a0 len cap] w (DPPost w) := by
  go_enter Try.func18, Try.ntmps18
  go_upto_region 5 with (first
    | (go_at_call 37; refine (new_any cap hs (row.mono ((Below.refl B w).alloc hB _ |>.trans (by go_grown))) (by simp; omega)).mono ?_; rintro e w1 ⟨b, rfl, hb, k1, hb1⟩; have r1 : R3 b w w1 := r3_new (by simp at hb; omega) k1.hi hb1)
    | (go_at_call 39; refine (once_acc _ k1 (Only.refl _ _) (by omega) (by omega)).mono ?_; rintro e w2 ⟨most, rfl, k2, o2⟩; have r2 := r1.only o2)
    | (go_at_call 45; refine (l3Draw_acc most k2).mono ?_; rintro e w3 ⟨a, n, c, ys, rfl, hfv, hys, k3, o3⟩)
    | (go_at_call_of 40 (Value.int IntKind.i64 2500); refine (below_acc 2500 (k3.alloc _) (Only.refl _ _) (by omega) (by omega)).mono ?_; rintro e w4 ⟨p0, rfl, hp0, k4, o4⟩)
    | (go_at_call_of 40 (Value.int IntKind.i64 60); refine (below_acc 60 k4 o4 (by omega) (by omega)).mono ?_; rintro e w5 ⟨q0, rfl, hq0, k5, o5⟩))
  have d5 := p3_new (p := p0) (q := q0) (u := 37) r2 o3 hfv hys o5 k5
  obtain ⟨x6, hx6⟩ : ∃ x, x = w5.alloc (.cells #[.int .i64 p0, .int .i64 q0] 37) := ⟨_, rfl⟩
  obtain ⟨fb, hfb⟩ : ∃ g, w3.heap.size = g := ⟨_, rfl⟩
  obtain ⟨sb, hsb⟩ : ∃ g, w5.heap.size = g := ⟨_, rfl⟩
  rw [← hx6, hfb, hsb] at d5
  rw [← hx6]
  simp only [hfb, hsb]
  have D : Hid (P3 B a0 len cap b w x6 a n c ys fb sb p0 q0) := d5
  clear d5 hx6 hfb hsb r1 r2 o2 o3 hfv hys o4 o5 k1 k2 k3 k4 k5 hb1 hb
  have hf0 := D.out.f0
  have hs0 := D.out.s0
  have hs1 := D.out.s1
  have hsf := D.out.sf
  have ho3 := D.out.o3
  have ho4 := D.out.o4
  have ho5 := D.out.o5
  have hn101 : n ≤ 101 := by have := D.out.fv.smp.1; have := D.out.ln; omega
  go_cut [31] from 23 (fun s wd => ∃ f, s = .bool f ∧ (f = true → 0 < n) ∧ P3 B a0 len cap b w wd a n c ys fb sb p0 q0)
  case first =>
    by_cases hn : 0 < n
    · have hn' : decide (0 < n) = true := decide_eq_true hn
      go_wp2_with (first
        | (go_at_call_of 39 (Value.int IntKind.i64 4); refine (once_acc _ D.out.cur (Only.refl _ _) (by omega) (by omega)).mono ?_; rintro e v6 ⟨f6, rfl, kk, oo⟩; have D1 : Hid (P3 B a0 len cap b w v6 a n c ys fb sb p0 q0) := D.out.draw oo kk; have hf0 := D1.out.f0; have hs0 := D1.out.s0; have hs1 := D1.out.s1; have hsf := D1.out.sf; have ho3 := D1.out.o3; have ho4 := D1.out.o4; have ho5 := D1.out.o5))
      go_meet
      exact ⟨_, rfl, fun _ => hn, D1.out⟩
    · have hn' : decide (0 < n) = false := decide_eq_false hn
      go_wp2
      go_meet
      exact ⟨_, rfl, (fun e => (by cases e)), D.out⟩
  case rest =>
  obtain ⟨f, rfl, hfn, d⟩ := hcut
  obtain ⟨v7, hv7⟩ : ∃ v7, v7 = wc := ⟨_, rfl⟩
  subst hv7
  have D : Hid (P3 B a0 len cap b w v7 a n c ys fb sb p0 q0) := d
  clear d
  have hf0 := D.out.f0
  have hs0 := D.out.s0
  have hs1 := D.out.s1
  have hsf := D.out.sf
  have ho3 := D.out.o3
  have ho4 := D.out.o4
  have ho5 := D.out.o5
  go_upto_if 31 with fail
  go_cut [] from 23 (fun wd => ∃ p q : Int, P3 B a0 len cap b w wd a n c ys fb sb p q)
  case first =>
    cases f
    · go_wp2
      go_meet
      exact ⟨_, _, D.out⟩
    · obtain ⟨g, rfl, hg0, hg1, fg, hnc⟩ := D.out.fv.pos (hfn rfl)
      have hn := hfn rfl
      obtain ⟨m, rfl⟩ : ∃ m, n = m + 1 := ⟨n - 1, by omega⟩
      obtain ⟨⟨z, hz⟩, _⟩ := fg.any (m * 2) (by omega)
      have ownb := D.out.own g rfl
      have hm1 : IntKind.i64.wrap ((m : Int) + 1 - 1) = (m : Int) := by rw [IntKind.wrap_i64]; omega
      have hm2 : IntKind.i64.wrap (((m + 1 : Nat) : Int) - 1) = (m : Int) := by rw [IntKind.wrap_i64]; omega
      have hm3 : (m : Int) < ((m + 1 : Nat) : Int) := by omega
      have hm4 : (m : Int) < (m : Int) + 1 := by omega
      have hm5 : ¬ (m : Int) < 0 := by omega
      have hm6 : IntKind.i64.wrap (m : Int) = (m : Int) := by rw [IntKind.wrap_i64]; omega
      go_wp2
      refine region_late (S := fun w' => w'.cell? ⟨fb, 0, none⟩ = some (.slice (some ⟨g, 0, none⟩) (m + 1) c) ∧ w'.cell? ⟨g, m * 2, none⟩ = some (.int .i64 z)) 16 (by kernel_rfl) (⟨hf0, hz⟩) (fun hS => ?_)
      refine late_take (i := 0) (v := ?_) rfl (by kernel_rfl) (by kernel_rfl) (by kernel_rfl) (by kernel_rfl) (fun _ _ _ h => h) (Or.inl ⟨by rfl, ?_⟩) (by assumption) ?_
      rotate_left 1
      · (intro w' hSw; (try dsimp only at hSw); go_simp; try with_reducible rfl)
      try simp only [Act.put, List.setIfInBounds_toArray, List.set_cons_zero, List.set_cons_succ, List.getElem_toArray, List.getElem_cons_succ, List.getElem_cons_zero]
      refine late_take (i := 1) (v := ?_) rfl (by kernel_rfl) (by kernel_rfl) (by kernel_rfl) (by kernel_rfl) (fun _ _ _ h => h) (Or.inl ⟨by rfl, ?_⟩) (by assumption) ?_
      rotate_left 1
      · (intro w' hSw; (try dsimp only at hSw); go_simp; try with_reducible rfl)
      try simp only [Act.put, List.setIfInBounds_toArray, List.set_cons_zero, List.set_cons_succ, List.getElem_toArray, List.getElem_cons_succ, List.getElem_cons_zero]
      refine late_take (i := 2) (v := ?_) rfl (by kernel_rfl) (by kernel_rfl) (by kernel_rfl) (by kernel_rfl) (fun _ _ _ h => h) (Or.inl ⟨by rfl, ?_⟩) (by assumption) ?_
      rotate_left 1
      · (intro w' hSw; (try dsimp only at hSw); go_simp; try with_reducible rfl)
      try simp only [Act.put, List.setIfInBounds_toArray, List.set_cons_zero, List.set_cons_succ, List.getElem_toArray, List.getElem_cons_succ, List.getElem_cons_zero]
      refine late_take (i := 3) (v := ?_) rfl (by kernel_rfl) (by kernel_rfl) (by kernel_rfl) (by kernel_rfl) (fun _ _ _ h => h) (Or.inl ⟨by rfl, ?_⟩) (by assumption) ?_
      rotate_left 1
      · (intro w' hSw; (try dsimp only at hSw); go_simp; try with_reducible rfl)
      try simp only [Act.put, List.setIfInBounds_toArray, List.set_cons_zero, List.set_cons_succ, List.getElem_toArray, List.getElem_cons_succ, List.getElem_cons_zero]
      refine late_take (i := 4) (v := ?_) rfl (by kernel_rfl) (by kernel_rfl) (by kernel_rfl) (by kernel_rfl) (fun _ _ _ h => h) (Or.inl ⟨by rfl, ?_⟩) (by assumption) ?_
      rotate_left 1
      · (intro w' hSw; (try dsimp only at hSw); go_simp; try with_reducible rfl)
      try simp only [Act.put, List.setIfInBounds_toArray, List.set_cons_zero, List.set_cons_succ, List.getElem_toArray, List.getElem_cons_succ, List.getElem_cons_zero]
      refine late_take (i := 5) (v := ?_) rfl (by kernel_rfl) (by kernel_rfl) (by kernel_rfl) (by kernel_rfl) (fun _ _ _ h => h) (Or.inl ⟨by rfl, ?_⟩) (by assumption) ?_
      rotate_left 1
      · (intro w' hSw; (try dsimp only at hSw); go_simp; try with_reducible rfl)
      try simp only [Act.put, List.setIfInBounds_toArray, List.set_cons_zero, List.set_cons_succ, List.getElem_toArray, List.getElem_cons_succ, List.getElem_cons_zero]
      refine late_take (i := 6) (v := ?_) rfl (by kernel_rfl) (by kernel_rfl) (by kernel_rfl) (by kernel_rfl) (fun _ _ _ h => h) (Or.inl ⟨by rfl, ?_⟩) (by assumption) ?_
      rotate_left 1
      · (intro w' hSw; (try dsimp only at hSw); go_simp; try with_reducible rfl)
      try simp only [Act.put, List.setIfInBounds_toArray, List.set_cons_zero, List.set_cons_succ, List.getElem_toArray, List.getElem_cons_succ, List.getElem_cons_zero]
      refine late_take (i := 7) (v := ?_) rfl (by kernel_rfl) (by kernel_rfl) (by kernel_rfl) (by kernel_rfl) (fun _ _ _ h => h) (Or.inl ⟨by rfl, ?_⟩) (by assumption) ?_
      rotate_left 1
      · (intro w' hSw; (try dsimp only at hSw); go_simp; try with_reducible rfl)
      try simp only [Act.put, List.setIfInBounds_toArray, List.set_cons_zero, List.set_cons_succ, List.getElem_toArray, List.getElem_cons_succ, List.getElem_cons_zero]
      refine late_take (i := 8) (v := ?_) rfl (by kernel_rfl) (by kernel_rfl) (by kernel_rfl) (by kernel_rfl) (fun _ _ _ h => h) (Or.inl ⟨by rfl, ?_⟩) (by assumption) ?_
      rotate_left 1
      · (intro w' hSw; (try dsimp only at hSw); go_simp; try with_reducible rfl)
      try simp only [Act.put, List.setIfInBounds_toArray, List.set_cons_zero, List.set_cons_succ, List.getElem_toArray, List.getElem_cons_succ, List.getElem_cons_zero]
      refine late_take (i := 9) (v := ?_) rfl (by kernel_rfl) (by kernel_rfl) (by kernel_rfl) (by kernel_rfl) (fun _ _ _ h => h) (Or.inl ⟨by rfl, ?_⟩) (by assumption) ?_
      rotate_left 1
      · (intro w' hSw; (try dsimp only at hSw); go_simp; try with_reducible rfl)
      try simp only [Act.put, List.setIfInBounds_toArray, List.set_cons_zero, List.set_cons_succ, List.getElem_toArray, List.getElem_cons_succ, List.getElem_cons_zero]
      refine late_take (i := 11) (v := ?_) rfl (by kernel_rfl) (by kernel_rfl) (by kernel_rfl) (by kernel_rfl) (fun _ _ _ h => h) (Or.inl ⟨by rfl, ?_⟩) (by assumption) ?_
      rotate_left 1
      · (intro w' hSw; (try dsimp only at hSw); go_simp; try with_reducible rfl)
      try simp only [Act.put, List.setIfInBounds_toArray, List.set_cons_zero, List.set_cons_succ, List.getElem_toArray, List.getElem_cons_succ, List.getElem_cons_zero]
      refine late_one (i := 10) (by kernel_rfl) rfl (fun K hK => ?_)
      go_simp
      (refine (below_acc 3 (D.out.cur.mono (by go_grown)) (Only.refl _ _) (by omega) (by omega)).mono ?_; rintro e v8 ⟨x8, rfl, hx8, kk, oo⟩; have D1 : Hid (P3 B a0 len cap b w v8 (some ⟨g, 0, none⟩) (m + 1) c ys fb sb p0 q0) := (D.out.next (by go_grown : Below v7.heap.size v7 v7.drew)).draw oo kk; have hz := (oo.cell (p := ⟨g, m * 2, none⟩) (by have := D1.out.o5; have := D1.out.o4; first | (show g < _; omega) | (simp; omega)) (by show g ≠ b; omega)).trans hz; have hf0 := D1.out.f0; have hs0 := D1.out.s0; have hs1 := D1.out.s1; have hsf := D1.out.sf; have ho3 := D1.out.o3; have ho4 := D1.out.o4; have ho5 := D1.out.o5; have hSk := And.intro hf0 hz)
      refine hK.out _ _ (by assumption) (fun _ => ?_)
      try simp only [Act.put, List.setIfInBounds_toArray, List.set_cons_zero, List.set_cons_succ, List.getElem_toArray, List.getElem_cons_succ, List.getElem_cons_zero]
      refine late_one (i := 12) (by kernel_rfl) rfl (fun K hK => ?_)
      go_simp
      (refine (below_acc 200 (D1.out.cur) (Only.refl _ _) (by omega) (by omega)).mono ?_; rintro e v9 ⟨x9, rfl, hx9, kk, oo⟩; have D2 : Hid (P3 B a0 len cap b w v9 (some ⟨g, 0, none⟩) (m + 1) c ys fb sb p0 q0) := D1.out.draw oo kk; have hz := (oo.cell (p := ⟨g, m * 2, none⟩) (by have := D2.out.o5; have := D2.out.o4; first | (show g < _; omega) | (simp; omega)) (by show g ≠ b; omega)).trans hz; have hf0 := D2.out.f0; have hs0 := D2.out.s0; have hs1 := D2.out.s1; have hsf := D2.out.sf; have ho3 := D2.out.o3; have ho4 := D2.out.o4; have ho5 := D2.out.o5; have hSk := And.intro hf0 hz)
      refine hK.out _ _ (by assumption) (fun _ => ?_)
      try simp only [Act.put, List.setIfInBounds_toArray, List.set_cons_zero, List.set_cons_succ, List.getElem_toArray, List.getElem_cons_succ, List.getElem_cons_zero]
      refine late_take (i := 13) (v := ?_) rfl (by kernel_rfl) (by kernel_rfl) (by kernel_rfl) (by kernel_rfl) (fun _ _ _ h => h) (Or.inl ⟨by rfl, ?_⟩) (by assumption) ?_
      rotate_left 1
      · (intro w' hSw; (try dsimp only at hSw); go_simp; try with_reducible rfl)
      try simp only [Act.put, List.setIfInBounds_toArray, List.set_cons_zero, List.set_cons_succ, List.getElem_toArray, List.getElem_cons_succ, List.getElem_cons_zero]
      refine late_take (i := 14) (v := ?_) rfl (by kernel_rfl) (by kernel_rfl) (by kernel_rfl) (by kernel_rfl) (fun _ _ _ h => h) (Or.inl ⟨by rfl, ?_⟩) (by assumption) ?_
      rotate_left 1
      · (intro w' hSw; (try dsimp only at hSw); go_simp; try with_reducible rfl)
      try simp only [Act.put, List.setIfInBounds_toArray, List.set_cons_zero, List.set_cons_succ, List.getElem_toArray, List.getElem_cons_succ, List.getElem_cons_zero]
      refine late_one (i := 15) (by kernel_rfl) rfl (fun K hK => ?_)
      go_simp
      refine hK.out _ _ (by assumption) (fun _ => ?_)
      try simp only [Act.put, List.setIfInBounds_toArray, List.set_cons_zero, List.set_cons_succ, List.getElem_toArray, List.getElem_cons_succ, List.getElem_cons_zero]
      refine late_last (by kernel_rfl) rfl (by kernel_rfl) (fun K hK => ?_)
      go_simp
      refine hK.out _ _ ?_
      try simp only [Act.put, List.setIfInBounds_toArray, List.set_cons_zero, List.set_cons_succ, List.getElem_toArray, List.getElem_cons_succ, List.getElem_cons_zero]
      repeat go_step
      go_meet
      exact ⟨_, _, D2.out.set0 _⟩
  case rest =>
  clear hfn
  obtain ⟨p, q, d⟩ := hcut
  obtain ⟨v10, hvv10⟩ : ∃ v, v = wc := ⟨_, rfl⟩
  subst hvv10
  have D : Hid (P3 B a0 len cap b w v10 a n c ys fb sb p q) := d
  clear d
  have hf0 := D.out.f0
  have hs0 := D.out.s0
  have hs1 := D.out.s1
  have hsf := D.out.sf
  have ho3 := D.out.o3
  have ho4 := D.out.o4
  have ho5 := D.out.o5
  go_upto_region 7 with fail
  go_cut [55] from 23 (fun s wd => ∃ f, s = .bool f ∧ P3 B a0 len cap b w wd a n c ys fb sb p q)
  case first =>
    by_cases hn : 50 < n
    · have hn' : decide (50 < n) = true := decide_eq_true hn
      have hn2 : (50 : Int) < (n : Int) := by omega
      go_wp2_with (first
        | (go_at_call_of 39 (Value.int IntKind.i64 2); refine (once_acc _ D.out.cur (Only.refl _ _) (by omega) (by omega)).mono ?_; rintro e v8 ⟨f2, rfl, kk, oo⟩; have D1 : Hid (P3 B a0 len cap b w v8 a n c ys fb sb p q) := D.out.draw oo kk; have hf0 := D1.out.f0; have hs0 := D1.out.s0; have hs1 := D1.out.s1; have hsf := D1.out.sf; have ho3 := D1.out.o3; have ho4 := D1.out.o4; have ho5 := D1.out.o5))
      go_meet
      exact ⟨_, rfl, D1.out⟩
    · have hn' : decide (50 < n) = false := decide_eq_false hn
      have hn2 : ¬ (50 : Int) < (n : Int) := by omega
      go_wp2
      go_meet
      exact ⟨_, rfl, D.out⟩
  case rest =>
  obtain ⟨f, rfl, d⟩ := hcut
  obtain ⟨v11, hvv11⟩ : ∃ v, v = wc := ⟨_, rfl⟩
  subst hvv11
  have D : Hid (P3 B a0 len cap b w v11 a n c ys fb sb p q) := d
  clear d
  have hf0 := D.out.f0
  have hs0 := D.out.s0
  have hs1 := D.out.s1
  have hsf := D.out.sf
  have ho3 := D.out.o3
  have ho4 := D.out.o4
  have ho5 := D.out.o5
  go_upto_if 55 with fail
  go_cut [] from 23 (fun wd => ∃ p q : Int, P3 B a0 len cap b w wd a n c ys fb sb p q)
  case first =>
    cases f
    · go_wp2
      go_meet
      exact ⟨_, _, D.out⟩
    · cases most
      · go_wp2
        go_meet
        exact ⟨_, _, (D.out.set1 4800).set1 5200⟩
      · go_wp2
        go_meet
        exact ⟨_, _, D.out.set1 4800⟩
  case rest =>
  obtain ⟨p, q, d⟩ := hcut
  obtain ⟨v12, hvv12⟩ : ∃ v, v = wc := ⟨_, rfl⟩
  subst hvv12
  have D : Hid (P3 B a0 len cap b w v12 a n c ys fb sb p q) := d
  clear d
  have hf0 := D.out.f0
  have hs0 := D.out.s0
  have hs1 := D.out.s1
  have hsf := D.out.sf
  have ho3 := D.out.o3
  have ho4 := D.out.o4
  have ho5 := D.out.o5
  go_upto_if 61 with (first
    | (go_at_call_of 39 (Value.int IntKind.i64 16); refine (once_acc _ D.out.cur (Only.refl _ _) (by omega) (by omega)).mono ?_; rintro e v8 ⟨f16, rfl, kk, oo⟩; have D1 : Hid (P3 B a0 len cap b w v8 a n c ys fb sb p q) := D.out.draw oo kk; have hf0 := D1.out.f0; have hs0 := D1.out.s0; have hs1 := D1.out.s1; have hsf := D1.out.sf; have ho3 := D1.out.o3; have ho4 := D1.out.o4; have ho5 := D1.out.o5))
  go_cut [] from 23 (fun wd => ∃ p q : Int, P3 B a0 len cap b w wd a n c ys fb sb p q)
  case first =>
    cases f16
    · go_wp2
      go_meet
      exact ⟨_, _, D1.out⟩
    · go_wp2_with (first
        | (go_at_call_of 40 (Value.int IntKind.i64 4); refine (below_acc 4 (D1.out.cur.alloc _) (Only.refl _ _) (by omega) (by omega)).mono ?_; rintro e v9 ⟨x9, rfl, hx9, kk, oo⟩; obtain ⟨X, rfl⟩ := Int.eq_ofNat_of_zero_le hx9.1; obtain ⟨y, z, hy, hz⟩ := smpTab_in X (by omega); have hcell := (table_cell D1.out.cur.hi oo (X * 2)).trans hy; have hcell2 := (table_cell D1.out.cur.hi oo (X * 2 + 1)).trans hz; have D2 : Hid (P3 B a0 len cap b w v9 a n c ys fb sb p q) := (D1.out.next (new_below _ _)).draw oo kk; have hf0 := D2.out.f0; have hs0 := D2.out.s0; have hs1 := D2.out.s1; have hsf := D2.out.sf; have ho3 := D2.out.o3; have ho4 := D2.out.o4; have ho5 := D2.out.o5))
      go_meet
      exact ⟨_, _, (D2.out.set0 y).set1 z⟩
  case rest =>
  obtain ⟨p, q, d⟩ := hcut
  obtain ⟨v13, hvv13⟩ : ∃ v, v = wc := ⟨_, rfl⟩
  subst hvv13
  have D : Hid (P3 B a0 len cap b w v13 a n c ys fb sb p q) := d
  clear d
  have hf0 := D.out.f0
  have hs0 := D.out.s0
  have hs1 := D.out.s1
  have hsf := D.out.sf
  have ho3 := D.out.o3
  have ho4 := D.out.o4
  have ho5 := D.out.o5
  go_upto_if 74 with (first
    | (go_at_call_of 40 (Value.int IntKind.i64 600); refine (below_acc 600 D.out.cur (Only.refl _ _) (by omega) (by omega)).mono ?_; rintro e v7 ⟨x7, rfl, hx7, kk, oo⟩; have D1 : Hid (P3 B a0 len cap b w v7 a n c ys fb sb p q) := D.out.draw oo kk; have hf0 := D1.out.f0; have hs0 := D1.out.s0; have hs1 := D1.out.s1; have hsf := D1.out.sf; have ho3 := D1.out.o3; have ho4 := D1.out.o4; have ho5 := D1.out.o5)
    | (go_at_call_of 39 (Value.int IntKind.i64 14); refine (once_acc _ D1.out.cur (Only.refl _ _) (by omega) (by omega)).mono ?_; rintro e v8 ⟨f14, rfl, kk, oo⟩; have D2 : Hid (P3 B a0 len cap b w v8 a n c ys fb sb p q) := D1.out.draw oo kk; have hf0 := D2.out.f0; have hs0 := D2.out.s0; have hs1 := D2.out.s1; have hsf := D2.out.sf; have ho3 := D2.out.o3; have ho4 := D2.out.o4; have ho5 := D2.out.o5))
  go_cut [10] from 23 (fun s wd => ∃ win : Int, s = .int .i64 win ∧ P3 B a0 len cap b w wd a n c ys fb sb p q)
  case first =>
    cases f14
    · go_wp2
      go_meet
      exact ⟨_, rfl, D2.out⟩
    · go_wp2_with (first
        | (go_at_call_of 40 (Value.int IntKind.i64 4); refine (below_acc 4 (D2.out.cur.alloc _) (Only.refl _ _) (by omega) (by omega)).mono ?_; rintro e v9 ⟨x9, rfl, hx9, kk, oo⟩; obtain ⟨X, rfl⟩ := Int.eq_ofNat_of_zero_le hx9.1; obtain ⟨y, hy⟩ := winTab_in X (by omega); have hcell := (table_cell D2.out.cur.hi oo X).trans hy; have D3 : Hid (P3 B a0 len cap b w v9 a n c ys fb sb p q) := (D2.out.next (new_below _ _)).draw oo kk; have hf0 := D3.out.f0; have hs0 := D3.out.s0; have hs1 := D3.out.s1; have hsf := D3.out.sf; have ho3 := D3.out.o3; have ho4 := D3.out.o4; have ho5 := D3.out.o5))
      go_meet
      exact ⟨_, rfl, D3.out⟩
  case rest =>
  obtain ⟨win, rfl, d⟩ := hcut
  obtain ⟨v15, hv15⟩ : ∃ v, v = wc := ⟨_, rfl⟩
  subst hv15
  have D : Hid (P3 B a0 len cap b w v15 a n c ys fb sb p q) := d
  clear d
  have hf0 := D.out.f0
  have hs0 := D.out.s0
  have hs1 := D.out.s1
  have hsf := D.out.sf
  have ho3 := D.out.o3
  have ho4 := D.out.o4
  have ho5 := D.out.o5
  have hr0 := D.out.rs.r0
  have hrf := D.out.rs.rf
  have ht0 := D.out.rs.t0
  have ht1 := D.out.rs.t1
  have htf := D.out.rs.tf
  have ho1 := D.out.rs.o1
  have n1 : w.heap.size ≠ fb := by omega
  have n2 : w.heap.size ≠ sb := by omega
  have n3 : w.heap.size + 1 ≠ fb := by omega
  have n4 : w.heap.size + 1 ≠ sb := by omega
  obtain ⟨e0, e1, e2, e3, e4⟩ := D.out.done
  go_wp2
  refine region_late (S := fun w' => w'.cell? ⟨fb, 0, none⟩ = some (.slice a n c) ∧ w'.cell? ⟨sb, 0, none⟩ = some (.int .i64 p) ∧ w'.cell? ⟨sb, 1, none⟩ = some (.int .i64 q)) 7 (by kernel_rfl) (⟨hf0, hs0, hs1⟩) (fun hS => ?_)
  refine late_take (i := 0) (v := ?_) rfl (by kernel_rfl) (by kernel_rfl) (by kernel_rfl) (by kernel_rfl) (fun _ _ _ h => h) (Or.inl ⟨by rfl, ?_⟩) (by assumption) ?_
  rotate_left 1
  · (intro w' hSw; (try dsimp only at hSw); go_simp; try with_reducible rfl)
  try simp only [Act.put, List.setIfInBounds_toArray, List.set_cons_zero, List.set_cons_succ, List.getElem_toArray, List.getElem_cons_succ, List.getElem_cons_zero]
  refine late_take (i := 1) (v := ?_) rfl (by kernel_rfl) (by kernel_rfl) (by kernel_rfl) (by kernel_rfl) (fun _ _ _ h => h) (Or.inl ⟨by rfl, ?_⟩) (by assumption) ?_
  rotate_left 1
  · (intro w' hSw; (try dsimp only at hSw); go_simp; try with_reducible rfl)
  try simp only [Act.put, List.setIfInBounds_toArray, List.set_cons_zero, List.set_cons_succ, List.getElem_toArray, List.getElem_cons_succ, List.getElem_cons_zero]
  refine late_take (i := 2) (v := ?_) rfl (by kernel_rfl) (by kernel_rfl) (by kernel_rfl) (by kernel_rfl) (fun _ _ _ h => h) (Or.inl ⟨by rfl, ?_⟩) (by assumption) ?_
  rotate_left 1
  · (intro w' hSw; (try dsimp only at hSw); go_simp; try with_reducible rfl)
  try simp only [Act.put, List.setIfInBounds_toArray, List.set_cons_zero, List.set_cons_succ, List.getElem_toArray, List.getElem_cons_succ, List.getElem_cons_zero]
  refine late_take (i := 3) (v := ?_) rfl (by kernel_rfl) (by kernel_rfl) (by kernel_rfl) (by kernel_rfl) (fun _ _ _ h => h) (Or.inl ⟨by rfl, ?_⟩) (by assumption) ?_
  rotate_left 1
  · (intro w' hSw; (try dsimp only at hSw); go_simp; try with_reducible rfl)
  try simp only [Act.put, List.setIfInBounds_toArray, List.set_cons_zero, List.set_cons_succ, List.getElem_toArray, List.getElem_cons_succ, List.getElem_cons_zero]
  refine late_one (i := 4) (by kernel_rfl) rfl (fun K hK => ?_)
  go_simp
  have hSp : (fun w' => w'.cell? ⟨fb, 0, none⟩ = some (.slice a n c) ∧ w'.cell? ⟨sb, 0, none⟩ = some (.int .i64 p) ∧ w'.cell? ⟨sb, 1, none⟩ = some (.int .i64 q)) (v15.drew.setCell ⟨w.heap.size, 0, none⟩ (.slice a n c)) := ⟨(World.cell?_setCell_other _ _ _ _ (by simp; try omega)).trans hf0, (World.cell?_setCell_other _ _ _ _ (by simp; try omega)).trans hs0, (World.cell?_setCell_other _ _ _ _ (by simp; try omega)).trans hs1⟩
  refine hK.out _ _ (by assumption) (fun hS => ?_)
  try simp only [Act.put, List.setIfInBounds_toArray, List.set_cons_zero, List.set_cons_succ, List.getElem_toArray, List.getElem_cons_succ, List.getElem_cons_zero]
  refine late_one (i := 5) (by kernel_rfl) rfl (fun K hK => ?_)
  go_simp
  have hSq : (fun w' => w'.cell? ⟨fb, 0, none⟩ = some (.slice a n c) ∧ w'.cell? ⟨sb, 0, none⟩ = some (.int .i64 p) ∧ w'.cell? ⟨sb, 1, none⟩ = some (.int .i64 q)) (((v15.drew.setCell ⟨w.heap.size, 0, none⟩ (.slice a n c)).setCell ⟨w.heap.size + 1, 0, none⟩ (.int .i64 p)).setCell ⟨w.heap.size + 1, 1, none⟩ (.int .i64 q)) := ⟨(World.cell?_setCell_other _ _ _ _ (by simp; try omega)).trans ((World.cell?_setCell_other _ _ _ _ (by simp; try omega)).trans hSp.1), (World.cell?_setCell_other _ _ _ _ (by simp; try omega)).trans ((World.cell?_setCell_other _ _ _ _ (by simp; try omega)).trans hSp.2.1), (World.cell?_setCell_other _ _ _ _ (by simp; try omega)).trans ((World.cell?_setCell_other _ _ _ _ (by simp; try omega)).trans hSp.2.2)⟩
  refine hK.out _ _ (by assumption) (fun hS => ?_)
  try simp only [Act.put, List.setIfInBounds_toArray, List.set_cons_zero, List.set_cons_succ, List.getElem_toArray, List.getElem_cons_succ, List.getElem_cons_zero]
  refine late_take (i := 6) (v := ?_) rfl (by kernel_rfl) (by kernel_rfl) (by kernel_rfl) (by kernel_rfl) (fun _ _ _ h => h) (Or.inl ⟨by rfl, ?_⟩) (by assumption) ?_
  rotate_left 1
  · (intro w' hSw; (try dsimp only at hSw); go_simp; try with_reducible rfl)
  try simp only [Act.put, List.setIfInBounds_toArray, List.set_cons_zero, List.set_cons_succ, List.getElem_toArray, List.getElem_cons_succ, List.getElem_cons_zero]
  refine late_last (by kernel_rfl) rfl (by kernel_rfl) (fun K hK => ?_)
  go_simp
  refine hK.out _ _ ?_
  try simp only [Act.put, List.setIfInBounds_toArray, List.set_cons_zero, List.set_cons_succ, List.getElem_toArray, List.getElem_cons_succ, List.getElem_cons_zero]
  go_wp2
  refine bodyPost_ret (results_cctt rfl _ _ w.heap.size (w.heap.size + 1) [.slice a n c] [.int .i64 p, .int .i64 q] rfl (cells_one e0) Try.underlying35 rfl (by kernel_rfl) rfl (loadVar_cells _ _ 0 _ _ (fun j v hv => by rw [Nat.zero_add]; exact cells_two e1 e2 j v hv) Try.underlying37 rfl (by kernel_rfl))) rfl ?_
  exact ⟨a, n, c, ys, p, q, win, most, rfl, e3, D.out.ln, e4⟩
end Go.Proofs.Ytmophpbfaonfmab

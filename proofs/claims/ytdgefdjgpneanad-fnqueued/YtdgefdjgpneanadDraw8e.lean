/- The draw of any Turns, in a variable of a draw's own; Turns and a count. -/
import Derived.Test.YtdgefdjgpneanadDraw8d
import Derived.Test.YtdgefdjgpneanadBuck
namespace Go.Proofs.Ytdgefdjgpneanad
open Go.ChangeShapes Go.WideShapes Go.ChangeAt Go.RowKit
set_option maxRecDepth 100000
set_option linter.unusedVariables false
set_option linter.unusedSimpArgs false

/-- Turns in a variable bT, the answer's place, and the cursor. -/
structure R8 (B : Nat) (a0 : Option Addr) (len cap b : Nat) (w wr : World) (lo bT : Nat) (ad : Option Addr) (c : Nat) (fs : List F8) (a : Int) (f : Bool) : Prop where
  cur : Cur B a0 len cap b wr
  hb : Below w.heap.size w wr
  r0 : wr.cell? ⟨w.heap.size, 0, none⟩ = some (.slice none 0 0)
  r1 : wr.cell? ⟨w.heap.size, 1, none⟩ = some (.int .i64 0)
  r2 : wr.cell? ⟨w.heap.size, 2, none⟩ = some (.bool false)
  rf : ∀ o : Nat, wr.frozen? ⟨w.heap.size, o, none⟩ = false
  t0 : wr.cell? ⟨bT, 0, none⟩ = some (.slice ad fs.length c)
  t1 : wr.cell? ⟨bT, 1, none⟩ = some (.int .i64 a)
  t2 : wr.cell? ⟨bT, 2, none⟩ = some (.bool f)
  tf : ∀ o : Nat, wr.frozen? ⟨bT, o, none⟩ = false
  z0 : w.heap.size < b
  z1 : b < lo
  z2 : lo ≤ bT
  z3 : bT < wr.heap.size
  own : fs = [] ∨ ∃ g vs, ad = some ⟨g, 0, none⟩ ∧ fs.length ≤ c ∧ FO wr lo bT g fs.length vs fs
  l4 : fs.length ≤ 4
  le : ∀ x ∈ fs, x.2.2.length ≤ 101
section
variable {B : Nat} {a0 : Option Addr} {len cap b : Nat} {w wr w2 : World} {lo bT : Nat} {ad : Option Addr} {c : Nat} {fs : List F8} {a : Int} {f : Bool}
theorem R8.draw (h : R8 B a0 len cap b w wr lo bT ad c fs a f) (o : Only b wr w2) (k : Cur B a0 len cap b w2) : R8 B a0 len cap b w w2 lo bT ad c fs a f := by
  have h0 := h.z0
  have h1 := h.z1
  have h2 := h.z2
  have h3 := h.z3
  have hc : ∀ y o' : Nat, y < wr.heap.size → y ≠ b → w2.cell? ⟨y, o', none⟩ = wr.cell? ⟨y, o', none⟩ := fun y o' hy hn => o.cell (p := ⟨y, o', none⟩) hy hn
  have hf : ∀ y o' : Nat, y < wr.heap.size → y ≠ b → w2.frozen? ⟨y, o', none⟩ = wr.frozen? ⟨y, o', none⟩ := fun y o' hy hn => o.frozen (p := ⟨y, o', none⟩) hy hn
  refine ⟨k, h.hb.trans (o.below (by omega) (by omega)), (hc _ 0 (by omega) (by omega)).trans h.r0, (hc _ 1 (by omega) (by omega)).trans h.r1, (hc _ 2 (by omega) (by omega)).trans h.r2, fun o' => (hf _ o' (by omega) (by omega)).trans (h.rf o'), (hc _ 0 h3 (by omega)).trans h.t0, (hc _ 1 h3 (by omega)).trans h.t1, (hc _ 2 h3 (by omega)).trans h.t2, fun o' => (hf _ o' h3 (by omega)).trans (h.tf o'), h.z0, h.z1, h.z2, Nat.lt_of_lt_of_le h.z3 o.size, ?_, h.l4, h.le⟩
  rcases h.own with e | ⟨g, vs, e, hcp, fo⟩
  · exact .inl e
  · exact .inr ⟨g, vs, e, hcp, fo.same o.size (fun y hy1 hy2 => o.block y (by omega) (by omega))⟩
theorem R8.next (h : R8 B a0 len cap b w wr lo bT ad c fs a f) (hb : Below wr.heap.size wr w2) : R8 B a0 len cap b w w2 lo bT ad c fs a f := h.draw (Only.of_below hb) (h.cur.mono hb)
/-- The draw begins. -/
theorem R8.begin {w1 : World} (hb1 : Below (w.alloc (.cells #[.slice none 0 0, .int .i64 0, .bool false] 48)).heap.size (w.alloc (.cells #[.slice none 0 0, .int .i64 0, .bool false] 48)) w1) (hb' : w.heap.size < b) (k1 : Cur B a0 len cap b w1) (k2 : Cur B a0 len cap b w2) (o2 : Only b w1 w2)
    (own : fs = [] ∨ ∃ g vs, ad = some ⟨g, 0, none⟩ ∧ fs.length ≤ c ∧ FO w2 (w1.heap.size + 1) w2.heap.size g fs.length vs fs) (l4 : fs.length ≤ 4) (le : ∀ x ∈ fs, x.2.2.length ≤ 101) :
    R8 B a0 len cap b w (w2.alloc (.cells #[.slice ad fs.length c, .int .i64 a, .bool f] 48)) w1.heap.size w2.heap.size ad c fs a f := by
  have hz := o2.size
  have hz1 := hb1.size
  simp at hz1
  have hk := k1.hi
  have hk2 := k2.hi
  have nb := newB w2 (.cells #[.slice ad fs.length c, .int .i64 a, .bool f] 48)
  have hwr : w.heap.size < w2.heap.size := by omega
  have hc : ∀ o : Nat, w2.cell? ⟨w.heap.size, o, none⟩ = (w.alloc (.cells #[.slice none 0 0, .int .i64 0, .bool false] 48)).cell? ⟨w.heap.size, o, none⟩ := fun o => (o2.cell (p := ⟨w.heap.size, o, none⟩) (by show w.heap.size < _; omega) (by show w.heap.size ≠ b; omega)).trans (hb1.cell (p := ⟨w.heap.size, o, none⟩) (by show w.heap.size < _; simp))
  have hf : ∀ o : Nat, w2.frozen? ⟨w.heap.size, o, none⟩ = (w.alloc (.cells #[.slice none 0 0, .int .i64 0, .bool false] 48)).frozen? ⟨w.heap.size, o, none⟩ := fun o => (o2.frozen (p := ⟨w.heap.size, o, none⟩) (by show w.heap.size < _; omega) (by show w.heap.size ≠ b; omega)).trans (hb1.frozen (p := ⟨w.heap.size, o, none⟩) (by show w.heap.size < _; simp))
  refine ⟨k2.mono nb, below_two ((start1 hb1).trans (o2.below (by omega) (by omega))) nb, (nb.cell (p := ⟨w.heap.size, 0, none⟩) hwr).trans ((hc 0).trans (by go_simp)), (nb.cell (p := ⟨w.heap.size, 1, none⟩) hwr).trans ((hc 1).trans (by go_simp)), (nb.cell (p := ⟨w.heap.size, 2, none⟩) hwr).trans ((hc 2).trans (by go_simp)), fun o => (nb.frozen (p := ⟨w.heap.size, o, none⟩) hwr).trans ((hf o).trans (by go_simp)), by go_simp, by go_simp, by go_simp, fun o => by go_simp, hb', by omega, by omega, by simp, ?_, l4, le⟩
  rcases own with e | ⟨g, vs, e, hcp, fo⟩
  · exact .inl e
  · exact .inr ⟨g, vs, e, hcp, (fo.wider (by omega) (Nat.le_refl _) (Nat.le_refl _)).next nb⟩
end
/-- Turns that lie in memory of their own, and few. -/
def T8In (w w' : World) (ad : Option Addr) (c : Nat) (fs : List F8) : Prop :=
  (fs = [] ∨ ∃ g vs, ad = some ⟨g, 0, none⟩ ∧ fs.length ≤ c ∧ FO w' w.heap.size w'.heap.size g fs.length vs fs) ∧ fs.length ≤ 4 ∧ (∀ x ∈ fs, x.2.2.length ≤ 101) ∧ Below w.heap.size w w'
theorem T8In.fls {w w' : World} {ad : Option Addr} {c : Nat} {fs : List F8} (h : T8In w w' ad c fs) : Fls w'.heap.size w' ad fs := by
  rcases h.1 with rfl | ⟨g, vs, rfl, _, fo⟩
  · exact Fls.nil _ _ _
  · exact fo.fls
/-- The answer is stored. -/
theorem R8.out {B : Nat} {a0 : Option Addr} {len cap b : Nat} {w wr : World} {lo bT c : Nat} {ad : Option Addr} {fs : List F8} {a : Int} {f : Bool} (h : R8 B a0 len cap b w wr lo bT ad c fs a f) (x y z : Value) :
    T8In w (((wr.setCell ⟨w.heap.size, 0, none⟩ x).setCell ⟨w.heap.size, 1, none⟩ y).setCell ⟨w.heap.size, 2, none⟩ z) ad c fs := by
  have h0 := h.z0
  have h1 := h.z1
  have h2 := h.z2
  have h3 := h.z3
  have hI : OnlyI w.heap.size (w.heap.size + 1) wr (((wr.setCell ⟨w.heap.size, 0, none⟩ x).setCell ⟨w.heap.size, 1, none⟩ y).setCell ⟨w.heap.size, 2, none⟩ z) :=
    (((OnlyI.refl _ _ _).setCell (by omega) (by omega) _).setCell (by omega) (by omega) _).setCell (by omega) (by omega) _
  have hBl : Below w.heap.size wr _ := hI.below (Nat.le_refl _) h.hb.size
  refine ⟨?_, h.l4, h.le, h.hb.trans hBl⟩
  rcases h.own with e | ⟨g, vs, e, hc, fo⟩
  · exact .inl e
  · exact .inr ⟨g, vs, e, hc, (fo.same hI.size (fun k h1 h2 => hI.block k (by omega) (.inr (by omega)))).wider (by omega) (by have := hI.size; omega) (Nat.le_refl _)⟩
theorem tabN8_in (X : Nat) (h : X < 4) : ∃ y : Int, (#[Value.int IntKind.i64 (-1), Value.int IntKind.i64 0, Value.int IntKind.i64 3000, Value.int IntKind.i64 3001] : Array Value)[X]? = some (.int .i64 y) := by
  match X, h with
  | 0, _ => exact ⟨_, rfl⟩
  | 1, _ => exact ⟨_, rfl⟩
  | 2, _ => exact ⟨_, rfl⟩
  | 3, _ => exact ⟨_, rfl⟩
end Go.Proofs.Ytdgefdjgpneanad

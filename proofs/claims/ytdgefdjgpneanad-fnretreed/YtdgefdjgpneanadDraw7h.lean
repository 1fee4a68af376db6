/- The draws of a Lend: a Lend in a variable, and a list of classes that is written. -/
import Derived.Test.YtdgefdjgpneanadDraw7g
import Derived.Test.YtdgefdjgpneanadSpecCopy
namespace Go.Proofs.Ytdgefdjgpneanad
open Go.ChangeShapes Go.WideShapes Go.ChangeAt Go.RowKit
set_option maxRecDepth 100000
set_option linter.unusedVariables false
set_option linter.unusedSimpArgs false

/-- Quads that lie in a block from lo up to hi. -/
def QB (lo hi : Nat) (w : World) (a : Option Addr) (xs : List Q4) : Prop := Quad hi w a xs ∧ ∀ g o, a = some ⟨g, o, none⟩ → xs ≠ [] → lo ≤ g
theorem QB.only {lo hi x : Nat} {w w' : World} {a : Option Addr} {xs : List Q4} (h : QB lo hi w a xs) (o : Only x w w') (hx : x < lo ∨ hi ≤ x) (hh : hi ≤ w.heap.size) : QB lo hi w' a xs := by
  refine ⟨fun k hk => ?_, h.2⟩
  obtain ⟨g, q, e, hg, c0, c1, c2, c3⟩ := h.1 k hk
  have hlo := h.2 g q e (fun h0 => by subst h0; simp at hk)
  have hn : g ≠ x := by omega
  have hc : ∀ i : Nat, w'.cell? ⟨g, i, none⟩ = w.cell? ⟨g, i, none⟩ := fun i => o.cell (p := ⟨g, i, none⟩) (by show g < _; omega) hn
  exact ⟨g, q, e, hg, (hc _).trans c0, (hc _).trans c1, (hc _).trans c2, (hc _).trans c3⟩
theorem QB.quad {lo hi : Nat} {w : World} {a : Option Addr} {xs : List Q4} (h : QB lo hi w a xs) (hh : hi ≤ w.heap.size) : Quad w.heap.size w a xs := fun k hk => by
  obtain ⟨g, q, e, hg, hc⟩ := h.1 k hk
  exact ⟨g, q, e, Nat.lt_of_lt_of_le hg hh, hc⟩
structure N7 (B : Nat) (a0 : Option Addr) (len cap b : Nat) (w0 wr : World) (lo bl mk : Nat) (a1 : Option Addr) (c1 : Nat) (a2 : Option Addr) (c2 : Nat) (a3 : Option Addr) (c3 : Nat) (T O P : List Q4) (vt : Value) (S : List Q4) : Prop where
  cur : Cur B a0 len cap b wr
  hb : Below w0.heap.size w0 wr
  r0 : wr.cell? ⟨w0.heap.size, 0, none⟩ = some (.slice none 0 0)
  r1 : wr.cell? ⟨w0.heap.size, 1, none⟩ = some (.slice none 0 0)
  r2 : wr.cell? ⟨w0.heap.size, 2, none⟩ = some (.slice none 0 0)
  rf : ∀ o : Nat, wr.frozen? ⟨w0.heap.size, o, none⟩ = false
  z0 : w0.heap.size < b
  z1 : b < lo
  z2 : lo ≤ bl
  z3 : bl < mk
  z4 : mk ≤ wr.heap.size
  c0 : wr.cell? ⟨bl, 0, none⟩ = some (.slice a1 T.length c1)
  c1' : wr.cell? ⟨bl, 1, none⟩ = some (.slice a2 O.length c2)
  c2' : wr.cell? ⟨bl, 2, none⟩ = some (.slice a3 P.length c3)
  q1 : QB lo bl wr a1 T
  q2 : QB lo bl wr a2 O
  q3 : QB lo bl wr a3 P
  own : wr.ownsRow mk 34 4 vt S.length (flatQ S)
section
variable {B : Nat} {a0 : Option Addr} {len cap b : Nat} {w0 wr w2 : World} {lo bl mk : Nat} {a1 a2 a3 : Option Addr} {c1 c2 c3 : Nat} {T O P : List Q4} {vt : Value} {S : List Q4}
/-- A block behind the variable has turned, or the cursor's; the list is told anew. -/
theorem N7.keep {x : Nat} {v' : Value} {S' : List Q4} (d : N7 B a0 len cap b w0 wr lo bl mk a1 c1 a2 c2 a3 c3 T O P vt S) (o : Only x wr w2) (hx : x = b ∨ mk ≤ x) (k : Cur B a0 len cap b w2) (ho : w2.ownsRow mk 34 4 v' S'.length (flatQ S')) : N7 B a0 len cap b w0 w2 lo bl mk a1 c1 a2 c2 a3 c3 T O P v' S' := by
  have h0 := d.z0
  have h1 := d.z1
  have h2 := d.z2
  have h3 := d.z3
  have h4 := d.z4
  have hz := o.size
  have n0 : w0.heap.size ≠ x := by omega
  have n1 : bl ≠ x := by omega
  have hc : ∀ i : Nat, w2.cell? ⟨w0.heap.size, i, none⟩ = wr.cell? ⟨w0.heap.size, i, none⟩ := fun i => o.cell (p := ⟨w0.heap.size, i, none⟩) (by show w0.heap.size < _; omega) n0
  have hl : ∀ i : Nat, w2.cell? ⟨bl, i, none⟩ = wr.cell? ⟨bl, i, none⟩ := fun i => o.cell (p := ⟨bl, i, none⟩) (by show bl < _; omega) n1
  exact ⟨k, d.hb.trans (o.below (by omega) d.hb.size), (hc 0).trans d.r0, (hc 1).trans d.r1, (hc 2).trans d.r2, fun i => (o.frozen (p := ⟨w0.heap.size, i, none⟩) (by show w0.heap.size < _; omega) n0).trans (d.rf i), h0, h1, h2, h3, by omega, (hl 0).trans d.c0, (hl 1).trans d.c1', (hl 2).trans d.c2', d.q1.only o (by omega) (by omega), d.q2.only o (by omega) (by omega), d.q3.only o (by omega) (by omega), ho⟩
theorem N7.draw (d : N7 B a0 len cap b w0 wr lo bl mk a1 c1 a2 c2 a3 c3 T O P vt S) (o : Only b wr w2) (k : Cur B a0 len cap b w2) : N7 B a0 len cap b w0 w2 lo bl mk a1 c1 a2 c2 a3 c3 T O P vt S :=
  d.keep o (.inl rfl) k (row_only d.own o (by have := d.z1; have := d.z2; have := d.z3; omega))
theorem N7.next (d : N7 B a0 len cap b w0 wr lo bl mk a1 c1 a2 c2 a3 c3 T O P vt S) (h : Below wr.heap.size wr w2) : N7 B a0 len cap b w0 w2 lo bl mk a1 c1 a2 c2 a3 c3 T O P vt S := d.draw (Only.of_below h) (d.cur.mono h)
/-- A number of the list is another one. -/
theorem N7.put {g c j : Nat} (d : N7 B a0 len cap b w0 wr lo bl mk a1 c1 a2 c2 a3 c3 T O P (.slice (some ⟨g, 0, none⟩) S.length c) S) (hg : mk ≤ g) (z : Int) :
    ∃ S', S'.length = S.length ∧ N7 B a0 len cap b w0 (wr.setCell ⟨g, j, none⟩ (.int .i64 z)) lo bl mk a1 c1 a2 c2 a3 c3 T O P (.slice (some ⟨g, 0, none⟩) S.length c) S' := by
  have h1 := d.z1
  have h2 := d.z2
  have h3 := d.z3
  have hB := d.cur.lo
  obtain ⟨S', hl, ho⟩ := own_put d.own j z
  have os : Only g wr (wr.setCell ⟨g, j, none⟩ (.int .i64 z)) := (Only.refl g wr).setCell (p := ⟨g, j, none⟩) rfl _
  have hlo : Below mk wr (wr.setCell ⟨g, j, none⟩ (.int .i64 z)) := (Below.refl mk wr).setCell (by exact hg) _
  exact ⟨S', hl, d.keep os (.inr hg) (d.cur.under hlo (by omega)) ho⟩
end
end Go.Proofs.Ytdgefdjgpneanad

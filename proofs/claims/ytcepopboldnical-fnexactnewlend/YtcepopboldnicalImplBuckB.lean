/- What impl's fills answer. -/
import Derived.Test.YtcepopboldnicalImplBuckA
import Derived.Deep.DeepCutAuto
namespace Go.Proofs.Ytcepopboldnical
open Go.ChangeShapes Go.WideShapes Go.ChangeAt Go.RowKit
set_option maxRecDepth 100000
set_option linter.unusedVariables false
set_option linter.unusedSimpArgs false

/-- A bucket in a variable, and the answer's place. -/
structure Pair4 (w wd : World) (a c : Nat) (r u l t : Int) : Prop where
  c0 : wd.cell? ⟨a, 0, none⟩ = some (.int .i64 r)
  c1 : wd.cell? ⟨a, 1, none⟩ = some (.int .i64 u)
  c2 : wd.cell? ⟨a, 2, none⟩ = some (.int .i64 l)
  c3 : wd.cell? ⟨a, 3, none⟩ = some (.int .i64 t)
  d0 : wd.cell? ⟨c, 0, none⟩ = some (.int .i64 0)
  d1 : wd.cell? ⟨c, 1, none⟩ = some (.int .i64 0)
  d2 : wd.cell? ⟨c, 2, none⟩ = some (.int .i64 0)
  d3 : wd.cell? ⟨c, 3, none⟩ = some (.int .i64 0)
  fa : ∀ o : Nat, wd.frozen? ⟨a, o, none⟩ = false
  fb : ∀ o : Nat, wd.frozen? ⟨c, o, none⟩ = false
  hb : Below w.heap.size w wd
  y0 : a < wd.heap.size
  y1 : c < wd.heap.size
  ya : w.heap.size ≤ a
  ne : a ≠ c
theorem Pair4.next {w wd w' : World} {a c : Nat} {r u l t : Int} (h : Pair4 w wd a c r u l t) (k : Below wd.heap.size wd w') : Pair4 w w' a c r u l t :=
  have e := below_cells4 k
  have f := below_frozens4 k
  ⟨(e _ _ h.y0).trans h.c0, (e _ _ h.y0).trans h.c1, (e _ _ h.y0).trans h.c2, (e _ _ h.y0).trans h.c3, (e _ _ h.y1).trans h.d0, (e _ _ h.y1).trans h.d1, (e _ _ h.y1).trans h.d2, (e _ _ h.y1).trans h.d3,
    fun o => (f _ _ h.y0).trans (h.fa o), fun o => (f _ _ h.y1).trans (h.fb o), below_two h.hb k, Nat.lt_of_lt_of_le h.y0 k.size, Nat.lt_of_lt_of_le h.y1 k.size, h.ya, h.ne⟩
theorem far4 {w : World} {b c i j : Nat} {v : Value} (h : b ≠ c) : (w.setCell ⟨b, i, none⟩ v).cell? ⟨c, j, none⟩ = w.cell? ⟨c, j, none⟩ := by
  apply World.cell?_setCell_other
  intro e
  injection e with e _ _
  exact h e
theorem Pair4.set2 {w wd : World} {a c : Nat} {r u l t : Int} (h : Pair4 w wd a c r u l t) (x : Int) : Pair4 w (wd.setCell ⟨a, 2, none⟩ (.int .i64 x)) a c r u x t :=
  ⟨(set_other4 (by decide)).trans h.c0, (set_other4 (by decide)).trans h.c1, set_same4 _ h.c2, (set_other4 (by decide)).trans h.c3, (far4 h.ne).trans h.d0, (far4 h.ne).trans h.d1, (far4 h.ne).trans h.d2, (far4 h.ne).trans h.d3,
    fun o => by simp [h.fa], fun o => by simp [h.fb], h.hb.setCell (by exact h.ya) _, by simp; exact h.y0, by simp; exact h.y1, h.ya, h.ne⟩
theorem Pair4.least {w wd : World} {a c : Nat} {r u l t x y : Int} (h : Pair4 w wd a c r u l t) : Pair4 w (wd.setCell ⟨a, 2, none⟩ (.int .i64 (if y < x then y else x))) a c r u (min x y) t := by
  have e : (if y < x then y else x) = min x y := by
    by_cases k : y < x
    · rw [if_pos k, Int.min_eq_right (Int.le_of_lt k)]
    · rw [if_neg k, Int.min_eq_left (by omega)]
  rw [e]
  exact h.set2 _
theorem pair_new {w : World} {r u l t : Int} : Pair4 w ((w.alloc (.cells #[.int .i64 r, .int .i64 u, .int .i64 l, .int .i64 t] 63)).alloc (.cells #[.int .i64 0, .int .i64 0, .int .i64 0, .int .i64 0] 63)) w.heap.size (w.heap.size + 1) r u l t :=
  ⟨by go_simp, by go_simp, by go_simp, by go_simp, by go_simp, by go_simp, by go_simp, by go_simp, fun o => by go_simp, fun o => by go_simp, by go_grown, by simp; omega, by simp, Nat.le_refl _, by omega⟩
def bringX (f : Bool) (P u : Int) : Int := if f = true then P else 1000000000 * u
end Go.Proofs.Ytcepopboldnical

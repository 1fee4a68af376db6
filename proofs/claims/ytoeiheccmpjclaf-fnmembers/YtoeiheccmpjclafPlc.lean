/- Places: two numbers and a list of numbers. How one that came in is opened; the laws' sizes, copies, comparisons and marks. -/
import Derived.Test.YtoeiheccmpjclafFlwTo
import Derived.Test.YtoeiheccmpjclafFlwOpen
import Derived.Test.YtoeiheccmpjclafGrpC
import Derived.Test.YtoeiheccmpjclafGrpF
namespace Go.Proofs.Ytoeiheccmpjclaf
open Go.ChangeShapes Go.WideShapes Go.ChangeAt Go.RowKit
set_option maxRecDepth 100000
set_option linter.unusedVariables false
set_option linter.unusedSimpArgs false

theorem cellsP_intS : Try.prog.cellsOf 35 = 1 := by kernel_rfl
theorem cellsP_i64 : Try.prog.cellsOf 2 = 1 := by kernel_rfl
theorem over3 {w : World} {g : Nat} {u0 u1 u2 : Value} (c0 c1 c2 : Value) (h0 : w.cell? ⟨g, 0, none⟩ = some u0) (h1 : w.cell? ⟨g, 1, none⟩ = some u1) (h2 : w.cell? ⟨g, 2, none⟩ = some u2) :
    ∃ w4, w4 = (((w.setCell ⟨g, 0, none⟩ c0).setCell ⟨g, 1, none⟩ c1).setCell ⟨g, 2, none⟩ c2) ∧ (∀ j v, [c0, c1, c2][j]? = some v → w4.cell? ⟨g, j, none⟩ = some v) ∧ (∀ k o : Nat, w4.frozen? ⟨k, o, none⟩ = w.frozen? ⟨k, o, none⟩) ∧ w4.heap.size = w.heap.size ∧ (∀ B, B ≤ g → Below B w w4) ∧ Only g w w4 :=
  ⟨_, rfl, put3_zero c0 c1 c2 h0 h1 h2, fun k o => by simp, by simp, fun B hB => Below.setCell (Below.setCell (Below.setCell (Below.refl _ _) (p := ⟨g, 0, none⟩) hB _) (p := ⟨g, 1, none⟩) hB _) (p := ⟨g, 2, none⟩) hB _, Only.setCell (Only.setCell (Only.setCell (Only.refl _ _) (p := ⟨g, 0, none⟩) rfl _) (p := ⟨g, 1, none⟩) rfl _) (p := ⟨g, 2, none⟩) rfl _⟩
/-- A Place in a variable. -/
structure Qc (w : World) (b : Nat) (wd fl : Int) (v : Value) : Prop where
  z : b < w.heap.size
  c0 : w.cell? ⟨b, 0, none⟩ = some (.int .i64 wd)
  c1 : w.cell? ⟨b, 1, none⟩ = some (.int .i64 fl)
  c2 : w.cell? ⟨b, 2, none⟩ = some v
theorem Qc.next {w w' : World} {b : Nat} {wd fl : Int} {v : Value} (d : Qc w b wd fl v) (h : Below w.heap.size w w') : Qc w' b wd fl v :=
  ⟨Nat.lt_of_lt_of_le d.z h.size, (h.cell (by exact d.z)).trans d.c0, (h.cell (by exact d.z)).trans d.c1, (h.cell (by exact d.z)).trans d.c2⟩
theorem Qc.onlyO {w w' : World} {b : Nat} {wd fl : Int} {v : Value} {o : Option Nat} (d : Qc w b wd fl v) (h : OnlyO o w w') (hb : o ≠ some b) : Qc w' b wd fl v :=
  ⟨Nat.lt_of_lt_of_le d.z h.size, (h.cell (by exact d.z) (by exact hb)).trans d.c0, (h.cell (by exact d.z) (by exact hb)).trans d.c1, (h.cell (by exact d.z) (by exact hb)).trans d.c2⟩
theorem qc_new (w : World) (wd fl : Int) (v : Value) (ty : TypeId) : Qc (w.alloc (.cells #[.int .i64 wd, .int .i64 fl, v] ty)) w.heap.size wd fl v := ⟨by simp, by go_simp, by go_simp, by go_simp⟩
theorem qc_over {w y : World} {b : Nat} {wd fl : Int} {v : Value} (h : ∀ j u, [.int .i64 wd, .int .i64 fl, v][j]? = some u → y.cell? ⟨b, j, none⟩ = some u) (z : b < w.heap.size) (e : y.heap.size = w.heap.size) : Qc y b wd fl v := ⟨by rw [e]; exact z, h 0 _ rfl, h 1 _ rfl, h 2 _ rfl⟩
theorem IFill.only {w w' : World} {g n k b : Nat} {xs : List Int} (f : IFill w g n xs k) (o : Only b w w') (hg : g < w.heap.size) (hb : g ≠ b) : IFill w' g n xs k :=
  ⟨fun j hj => ⟨by obtain ⟨z, hz⟩ := (f.any j hj).1; exact ⟨z, (o.cell (by exact hg) (by exact hb)).trans hz⟩, (o.frozen (by exact hg) (by exact hb)).trans (f.any j hj).2⟩, fun i hi hk => (o.cell (by exact hg) (by exact hb)).trans (f.got i hi hk)⟩
end Go.Proofs.Ytoeiheccmpjclaf

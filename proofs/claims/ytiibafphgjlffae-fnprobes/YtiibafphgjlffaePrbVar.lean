/- A Probe in a variable, carried through calls. -/
import Derived.Test.YtiibafphgjlffaeObsMath
namespace Go.Proofs.Ytiibafphgjlffae
open Go.ChangeShapes Go.WideShapes Go.ChangeAt Go.RowKit
set_option maxRecDepth 100000
set_option linter.unusedVariables false
set_option linter.unusedSimpArgs false

structure Pc (w : World) (b : Nat) (s : Pb) (v : Value) : Prop where
  z : b < w.heap.size
  c0 : w.cell? ⟨b, 0, none⟩ = some (.int .i64 s.sa)
  c1 : w.cell? ⟨b, 1, none⟩ = some (.int .i64 s.cy)
  c2 : w.cell? ⟨b, 2, none⟩ = some (.int .i64 s.sn)
  c3 : w.cell? ⟨b, 3, none⟩ = some (.int .i64 s.tp)
  c4 : w.cell? ⟨b, 4, none⟩ = some (.int .i64 s.sv)
  c5 : w.cell? ⟨b, 5, none⟩ = some (v)
  c6 : w.cell? ⟨b, 6, none⟩ = some (.int .i64 s.mt)
  c7 : w.cell? ⟨b, 7, none⟩ = some (.int .i64 s.ta)
theorem Pc.next {w w' : World} {b : Nat} {s : Pb} {v : Value} (d : Pc w b s v) (h : Below w.heap.size w w') : Pc w' b s v :=
  ⟨Nat.lt_of_lt_of_le d.z h.size, (h.cell (by exact d.z)).trans d.c0, (h.cell (by exact d.z)).trans d.c1, (h.cell (by exact d.z)).trans d.c2, (h.cell (by exact d.z)).trans d.c3, (h.cell (by exact d.z)).trans d.c4, (h.cell (by exact d.z)).trans d.c5, (h.cell (by exact d.z)).trans d.c6, (h.cell (by exact d.z)).trans d.c7⟩
theorem Pc.onlyO {w w' : World} {b : Nat} {s : Pb} {v : Value} {o : Option Nat} (d : Pc w b s v) (h : OnlyO o w w') (hb : o ≠ some b) : Pc w' b s v :=
  ⟨Nat.lt_of_lt_of_le d.z h.size, (h.cell (by exact d.z) (by exact hb)).trans d.c0, (h.cell (by exact d.z) (by exact hb)).trans d.c1, (h.cell (by exact d.z) (by exact hb)).trans d.c2, (h.cell (by exact d.z) (by exact hb)).trans d.c3, (h.cell (by exact d.z) (by exact hb)).trans d.c4, (h.cell (by exact d.z) (by exact hb)).trans d.c5, (h.cell (by exact d.z) (by exact hb)).trans d.c6, (h.cell (by exact d.z) (by exact hb)).trans d.c7⟩
theorem pc_new (w : World) (s : Pb) (v : Value) (ty : TypeId) : Pc (w.alloc (.cells #[.int .i64 s.sa, .int .i64 s.cy, .int .i64 s.sn, .int .i64 s.tp, .int .i64 s.sv, v, .int .i64 s.mt, .int .i64 s.ta] ty)) w.heap.size s v :=
  ⟨by simp, by go_simp, by go_simp, by go_simp, by go_simp, by go_simp, by go_simp, by go_simp, by go_simp⟩
end Go.Proofs.Ytiibafphgjlffae

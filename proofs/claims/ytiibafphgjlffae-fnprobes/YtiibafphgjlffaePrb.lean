/- Probes: five numbers, a filter, two numbers. How one that came in is opened; the laws' copies, comparisons and marks. -/
import Derived.Test.YtiibafphgjlffaeFiltV
import Derived.Test.YtiibafphgjlffaeGrpF
namespace Go.Proofs.Ytiibafphgjlffae
open Go.ChangeShapes Go.WideShapes Go.ChangeAt Go.RowKit
set_option maxRecDepth 100000
set_option linter.unusedVariables false
set_option linter.unusedSimpArgs false

theorem list8 {α : Type} {cs : List α} (h : cs.length = 8) : ∃ c0 c1 c2 c3 c4 c5 c6 c7, cs = [c0, c1, c2, c3, c4, c5, c6, c7] := by
  match cs, h with
  | [c0, c1, c2, c3, c4, c5, c6, c7], _ => exact ⟨c0, c1, c2, c3, c4, c5, c6, c7, rfl⟩
section
variable {H : Type} {enc : TypeId × Value → H} {P : Program} {w : World} {sp : Nat → Bool} {held : Bool}
theorem open_prb {e i g : TypeId} {f0 f1 f2 f3 f4 f5 f6 f7 : Field} (he : P.underlying e = some (.struct #[f0, f1, f2, f3, f4, f5, f6, f7])) (hi : P.underlying i = some (.int .i64)) (t0 : f0.type = i) (o0 : f0.offset = 0) (t1 : f1.type = i) (o1 : f1.offset = 1) (t2 : f2.type = i) (o2 : f2.offset = 2) (t3 : f3.type = i) (o3 : f3.offset = 3) (t4 : f4.type = i) (o4 : f4.offset = 4) (t5 : f5.type = g) (o5 : f5.offset = 5) (t6 : f6.type = i) (o6 : f6.offset = 6) (t7 : f7.type = i) (o7 : f7.offset = 7)
    (ci : P.cellsOf i = 1) (cg : P.cellsOf g = 1) (ce : P.cellsOf e = 8)
    (hg : ∀ {fuel : Nat} {cs : List Value} {x : DataW H × List MemPlace}, DataW.trod enc P w 0 sp held fuel g cs = some x → cs.length = 1 → ∃ (a : Option Addr) (cap : Nat) (xs : List (Int × Int)), cs = [.slice a xs.length cap] ∧ Smp w.heap.size w a xs ∧ (∀ x ∈ xs, I64 x.1 ∧ I64 x.2) ∧ (a = none → xs = [] ∧ cap = 0) ∧ xs.length ≤ cap ∧ cap ≤ maxLen) {fuel : Nat} {cs : List Value} {x : DataW H × List MemPlace}
    (h : DataW.trod enc P w 0 sp held fuel e cs = some x) : ∃ (sa cy sn tp sv mt ta : Int) (a : Option Addr) (cap : Nat) (xs : List (Int × Int)), cs = [.int .i64 sa, .int .i64 cy, .int .i64 sn, .int .i64 tp, .int .i64 sv, .slice a xs.length cap, .int .i64 mt, .int .i64 ta] ∧ I64 sa ∧ I64 cy ∧ I64 sn ∧ I64 tp ∧ I64 sv ∧ I64 mt ∧ I64 ta ∧ Smp w.heap.size w a xs ∧ (∀ x ∈ xs, I64 x.1 ∧ I64 x.2) ∧ (a = none → xs = [] ∧ cap = 0) ∧ xs.length ≤ cap ∧ cap ≤ maxLen := by
  obtain ⟨ys, n, _, rfl, hl, hlen, hf⟩ := DataW.trod_struct he h
  rw [ce] at hl
  obtain ⟨c0, c1, c2, c3, c4, c5, c6, c7, rfl⟩ := list8 hl
  obtain ⟨y0, y1, y2, y3, y4, y5, y6, y7, rfl⟩ := list8 (show ys.length = 8 from hlen)
  have h0 := hf 0 f0 rfl
  change _ = some y0 at h0
  rw [o0, t0, ci] at h0
  have h1 := hf 1 f1 rfl
  change _ = some y1 at h1
  rw [o1, t1, ci] at h1
  have h2 := hf 2 f2 rfl
  change _ = some y2 at h2
  rw [o2, t2, ci] at h2
  have h3 := hf 3 f3 rfl
  change _ = some y3 at h3
  rw [o3, t3, ci] at h3
  have h4 := hf 4 f4 rfl
  change _ = some y4 at h4
  rw [o4, t4, ci] at h4
  have h5 := hf 5 f5 rfl
  change _ = some y5 at h5
  rw [o5, t5, cg] at h5
  have h6 := hf 6 f6 rfl
  change _ = some y6 at h6
  rw [o6, t6, ci] at h6
  have h7 := hf 7 f7 rfl
  change _ = some y7 at h7
  rw [o7, t7, ci] at h7
  obtain ⟨sa, e0, _, w0⟩ := DataW.trod_int hi h0
  obtain ⟨cy, e1, _, w1⟩ := DataW.trod_int hi h1
  obtain ⟨sn, e2, _, w2⟩ := DataW.trod_int hi h2
  obtain ⟨tp, e3, _, w3⟩ := DataW.trod_int hi h3
  obtain ⟨sv, e4, _, w4⟩ := DataW.trod_int hi h4
  obtain ⟨mt, e6, _, w6⟩ := DataW.trod_int hi h6
  obtain ⟨ta, e7, _, w7⟩ := DataW.trod_int hi h7
  obtain ⟨a, cap, xs, e5, k5⟩ := hg h5 (by simp)
  simp only [List.drop_zero, List.take_succ_cons, List.take_zero, List.drop_succ_cons, List.cons.injEq, and_true] at e0 e1 e2 e3 e4 e5 e6 e7
  exact ⟨sa, cy, sn, tp, sv, mt, ta, a, cap, xs, by rw [e0, e1, e2, e3, e4, e5, e6, e7], bounds_i64 w0, bounds_i64 w1, bounds_i64 w2, bounds_i64 w3, bounds_i64 w4, bounds_i64 w6, bounds_i64 w7, k5⟩
end
theorem cells_i64p : Try.prog.cellsOf 2 = 1 := by kernel_rfl
end Go.Proofs.Ytiibafphgjlffae

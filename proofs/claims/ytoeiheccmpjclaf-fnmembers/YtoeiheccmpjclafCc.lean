/- Chapter 10's Cc: nine numbers and a flag. How one that came in is opened; the laws' copies and comparisons. -/
import Derived.Test.YtoeiheccmpjclafGrpF
import Derived.Test.YtoeiheccmpjclafGrpC
namespace Go.Proofs.Ytoeiheccmpjclaf
open Go.ChangeShapes Go.WideShapes Go.ChangeAt Go.RowKit
set_option maxRecDepth 100000
set_option linter.unusedVariables false

theorem list10 {α : Type} {cs : List α} (h : cs.length = 10) : ∃ c0 c1 c2 c3 c4 c5 c6 c7 c8 c9, cs = [c0, c1, c2, c3, c4, c5, c6, c7, c8, c9] := by
  match cs, h with
  | [c0, c1, c2, c3, c4, c5, c6, c7, c8, c9], _ => exact ⟨c0, c1, c2, c3, c4, c5, c6, c7, c8, c9, rfl⟩
section
variable {H : Type} {enc : TypeId × Value → H} {P : Program} {w : World} {sp : Nat → Bool} {held : Bool}
theorem open_ints9b {e i b : TypeId} {f0 f1 f2 f3 f4 f5 f6 f7 f8 f9 : Field} (he : P.underlying e = some (.struct #[f0, f1, f2, f3, f4, f5, f6, f7, f8, f9])) (hi : P.underlying i = some (.int .i64)) (hb : P.underlying b = some .bool) (t0 : f0.type = i) (o0 : f0.offset = 0) (t1 : f1.type = i) (o1 : f1.offset = 1) (t2 : f2.type = i) (o2 : f2.offset = 2) (t3 : f3.type = i) (o3 : f3.offset = 3) (t4 : f4.type = i) (o4 : f4.offset = 4) (t5 : f5.type = i) (o5 : f5.offset = 5) (t6 : f6.type = i) (o6 : f6.offset = 6) (t7 : f7.type = i) (o7 : f7.offset = 7) (t8 : f8.type = i) (o8 : f8.offset = 8) (t9 : f9.type = b) (o9 : f9.offset = 9)
    (ci : P.cellsOf i = 1) (cb : P.cellsOf b = 1) (ce : P.cellsOf e = 10) {fuel : Nat} {cs : List Value} {x : DataW H × List MemPlace}
    (h : DataW.trod enc P w 0 sp held fuel e cs = some x) : ∃ (k wn th fl ac la og st fr : Int) (sl : Bool), cs = [.int .i64 k, .int .i64 wn, .int .i64 th, .int .i64 fl, .int .i64 ac, .int .i64 la, .int .i64 og, .int .i64 st, .int .i64 fr, .bool sl] ∧ I64 k ∧ I64 wn ∧ I64 th ∧ I64 fl ∧ I64 ac ∧ I64 la ∧ I64 og ∧ I64 st ∧ I64 fr := by
  obtain ⟨xs, n, _, rfl, hl, hlen, hf⟩ := DataW.trod_struct he h
  rw [ce] at hl
  obtain ⟨c0, c1, c2, c3, c4, c5, c6, c7, c8, c9, rfl⟩ := list10 hl
  obtain ⟨y0, y1, y2, y3, y4, y5, y6, y7, y8, y9, rfl⟩ := list10 (show xs.length = 10 from hlen)
  have h0 := hf 0 f0 rfl
  change _ = some y0 at h0
  rw [o0, t0, ci] at h0
  have h1 := hf 1 f1 rfl
  change _ = some y1 at h1
  rw [o1, t1, ci] at h1
  have h2 := hf 2 f2 rfl
  change _ = some y2 at h2
  rw [o2, t2, ci] at h2
  have h3 := hf 3 f3 rfl
  change _ = some y3 at h3
  rw [o3, t3, ci] at h3
  have h4 := hf 4 f4 rfl
  change _ = some y4 at h4
  rw [o4, t4, ci] at h4
  have h5 := hf 5 f5 rfl
  change _ = some y5 at h5
  rw [o5, t5, ci] at h5
  have h6 := hf 6 f6 rfl
  change _ = some y6 at h6
  rw [o6, t6, ci] at h6
  have h7 := hf 7 f7 rfl
  change _ = some y7 at h7
  rw [o7, t7, ci] at h7
  have h8 := hf 8 f8 rfl
  change _ = some y8 at h8
  rw [o8, t8, ci] at h8
  have h9 := hf 9 f9 rfl
  change _ = some y9 at h9
  rw [o9, t9, cb] at h9
  obtain ⟨k, e0, _, w0⟩ := DataW.trod_int hi h0
  obtain ⟨wn, e1, _, w1⟩ := DataW.trod_int hi h1
  obtain ⟨th, e2, _, w2⟩ := DataW.trod_int hi h2
  obtain ⟨fl, e3, _, w3⟩ := DataW.trod_int hi h3
  obtain ⟨ac, e4, _, w4⟩ := DataW.trod_int hi h4
  obtain ⟨la, e5, _, w5⟩ := DataW.trod_int hi h5
  obtain ⟨og, e6, _, w6⟩ := DataW.trod_int hi h6
  obtain ⟨st, e7, _, w7⟩ := DataW.trod_int hi h7
  obtain ⟨fr, e8, _, w8⟩ := DataW.trod_int hi h8
  obtain ⟨sl, e9, _⟩ := DataW.trod_bool hb h9
  simp only [List.drop_zero, List.take_succ_cons, List.take_zero, List.drop_succ_cons, List.cons.injEq, and_true] at e0 e1 e2 e3 e4 e5 e6 e7 e8 e9
  exact ⟨k, wn, th, fl, ac, la, og, st, fr, sl, by rw [e0, e1, e2, e3, e4, e5, e6, e7, e8, e9], bounds_i64 w0, bounds_i64 w1, bounds_i64 w2, bounds_i64 w3, bounds_i64 w4, bounds_i64 w5, bounds_i64 w6, bounds_i64 w7, bounds_i64 w8⟩
end
theorem cells_int64c : Try.prog.cellsOf 2 = 1 := by kernel_rfl
theorem cells_boolc : Try.prog.cellsOf 4 = 1 := by kernel_rfl
theorem cells_ten {w : World} {g : Nat} {c0 c1 c2 c3 c4 c5 c6 c7 c8 c9 : Value} (h0 : w.cell? ⟨g, 0, none⟩ = some c0) (h1 : w.cell? ⟨g, 1, none⟩ = some c1) (h2 : w.cell? ⟨g, 2, none⟩ = some c2) (h3 : w.cell? ⟨g, 3, none⟩ = some c3) (h4 : w.cell? ⟨g, 4, none⟩ = some c4) (h5 : w.cell? ⟨g, 5, none⟩ = some c5) (h6 : w.cell? ⟨g, 6, none⟩ = some c6) (h7 : w.cell? ⟨g, 7, none⟩ = some c7) (h8 : w.cell? ⟨g, 8, none⟩ = some c8) (h9 : w.cell? ⟨g, 9, none⟩ = some c9) : ∀ j v, [c0, c1, c2, c3, c4, c5, c6, c7, c8, c9][j]? = some v → w.cell? ⟨g, j, none⟩ = some v := by
  intro j v hv
  match j, hv with
  | 0, hv => obtain rfl : c0 = v := by simpa using hv
             exact h0
  | 1, hv => obtain rfl : c1 = v := by simpa using hv
             exact h1
  | 2, hv => obtain rfl : c2 = v := by simpa using hv
             exact h2
  | 3, hv => obtain rfl : c3 = v := by simpa using hv
             exact h3
  | 4, hv => obtain rfl : c4 = v := by simpa using hv
             exact h4
  | 5, hv => obtain rfl : c5 = v := by simpa using hv
             exact h5
  | 6, hv => obtain rfl : c6 = v := by simpa using hv
             exact h6
  | 7, hv => obtain rfl : c7 = v := by simpa using hv
             exact h7
  | 8, hv => obtain rfl : c8 = v := by simpa using hv
             exact h8
  | 9, hv => obtain rfl : c9 = v := by simpa using hv
             exact h9
/-- A struct of ten is stored over: the world behind it as a letter. -/
theorem over10 {w : World} {g : Nat} {u0 u1 u2 u3 u4 u5 u6 u7 u8 u9 : Value} (c0 c1 c2 c3 c4 c5 c6 c7 c8 c9 : Value) (h0 : w.cell? ⟨g, 0, none⟩ = some u0) (h1 : w.cell? ⟨g, 1, none⟩ = some u1) (h2 : w.cell? ⟨g, 2, none⟩ = some u2) (h3 : w.cell? ⟨g, 3, none⟩ = some u3) (h4 : w.cell? ⟨g, 4, none⟩ = some u4) (h5 : w.cell? ⟨g, 5, none⟩ = some u5) (h6 : w.cell? ⟨g, 6, none⟩ = some u6) (h7 : w.cell? ⟨g, 7, none⟩ = some u7) (h8 : w.cell? ⟨g, 8, none⟩ = some u8) (h9 : w.cell? ⟨g, 9, none⟩ = some u9) :
    ∃ w4, w4 = ((((((((((w.setCell ⟨g, 0, none⟩ c0).setCell ⟨g, 1, none⟩ c1).setCell ⟨g, 2, none⟩ c2).setCell ⟨g, 3, none⟩ c3).setCell ⟨g, 4, none⟩ c4).setCell ⟨g, 5, none⟩ c5).setCell ⟨g, 6, none⟩ c6).setCell ⟨g, 7, none⟩ c7).setCell ⟨g, 8, none⟩ c8).setCell ⟨g, 9, none⟩ c9) ∧ (∀ j v, [c0, c1, c2, c3, c4, c5, c6, c7, c8, c9][j]? = some v → w4.cell? ⟨g, j, none⟩ = some v) ∧
      (∀ k o : Nat, k ≠ g → w4.cell? ⟨k, o, none⟩ = w.cell? ⟨k, o, none⟩) ∧ (∀ k o : Nat, w4.frozen? ⟨k, o, none⟩ = w.frozen? ⟨k, o, none⟩) ∧ w4.heap.size = w.heap.size ∧ (∀ B, B ≤ g → Below B w w4) := by
  refine ⟨_, rfl, ?_, ?_, fun k o => by simp, by simp, ?_⟩
  · refine cells_ten ?_ ?_ ?_ ?_ ?_ ?_ ?_ ?_ ?_ ?_
    · exact ((set_other4 (by decide)).trans ((set_other4 (by decide)).trans ((set_other4 (by decide)).trans ((set_other4 (by decide)).trans ((set_other4 (by decide)).trans ((set_other4 (by decide)).trans ((set_other4 (by decide)).trans ((set_other4 (by decide)).trans ((set_other4 (by decide)).trans (set_same4 _ h0))))))))))
    · exact ((set_other4 (by decide)).trans ((set_other4 (by decide)).trans ((set_other4 (by decide)).trans ((set_other4 (by decide)).trans ((set_other4 (by decide)).trans ((set_other4 (by decide)).trans ((set_other4 (by decide)).trans ((set_other4 (by decide)).trans (set_same4 _ ((set_other4 (by decide)).trans h1))))))))))
    · exact ((set_other4 (by decide)).trans ((set_other4 (by decide)).trans ((set_other4 (by decide)).trans ((set_other4 (by decide)).trans ((set_other4 (by decide)).trans ((set_other4 (by decide)).trans ((set_other4 (by decide)).trans (set_same4 _ ((set_other4 (by decide)).trans ((set_other4 (by decide)).trans h2))))))))))
    · exact ((set_other4 (by decide)).trans ((set_other4 (by decide)).trans ((set_other4 (by decide)).trans ((set_other4 (by decide)).trans ((set_other4 (by decide)).trans ((set_other4 (by decide)).trans (set_same4 _ ((set_other4 (by decide)).trans ((set_other4 (by decide)).trans ((set_other4 (by decide)).trans h3))))))))))
    · exact ((set_other4 (by decide)).trans ((set_other4 (by decide)).trans ((set_other4 (by decide)).trans ((set_other4 (by decide)).trans ((set_other4 (by decide)).trans (set_same4 _ ((set_other4 (by decide)).trans ((set_other4 (by decide)).trans ((set_other4 (by decide)).trans ((set_other4 (by decide)).trans h4))))))))))
    · exact ((set_other4 (by decide)).trans ((set_other4 (by decide)).trans ((set_other4 (by decide)).trans ((set_other4 (by decide)).trans (set_same4 _ ((set_other4 (by decide)).trans ((set_other4 (by decide)).trans ((set_other4 (by decide)).trans ((set_other4 (by decide)).trans ((set_other4 (by decide)).trans h5))))))))))
    · exact ((set_other4 (by decide)).trans ((set_other4 (by decide)).trans ((set_other4 (by decide)).trans (set_same4 _ ((set_other4 (by decide)).trans ((set_other4 (by decide)).trans ((set_other4 (by decide)).trans ((set_other4 (by decide)).trans ((set_other4 (by decide)).trans ((set_other4 (by decide)).trans h6))))))))))
    · exact ((set_other4 (by decide)).trans ((set_other4 (by decide)).trans (set_same4 _ ((set_other4 (by decide)).trans ((set_other4 (by decide)).trans ((set_other4 (by decide)).trans ((set_other4 (by decide)).trans ((set_other4 (by decide)).trans ((set_other4 (by decide)).trans ((set_other4 (by decide)).trans h7))))))))))
    · exact ((set_other4 (by decide)).trans (set_same4 _ ((set_other4 (by decide)).trans ((set_other4 (by decide)).trans ((set_other4 (by decide)).trans ((set_other4 (by decide)).trans ((set_other4 (by decide)).trans ((set_other4 (by decide)).trans ((set_other4 (by decide)).trans ((set_other4 (by decide)).trans h8))))))))))
    · exact (set_same4 _ ((set_other4 (by decide)).trans ((set_other4 (by decide)).trans ((set_other4 (by decide)).trans ((set_other4 (by decide)).trans ((set_other4 (by decide)).trans ((set_other4 (by decide)).trans ((set_other4 (by decide)).trans ((set_other4 (by decide)).trans ((set_other4 (by decide)).trans h9))))))))))
  · intro k o hk
    have far : ∀ (x : World) (i : Nat) (v : Value), (x.setCell ⟨g, i, none⟩ v).cell? ⟨k, o, none⟩ = x.cell? ⟨k, o, none⟩ := fun x i v => World.cell?_setCell_other _ _ _ _ (fun e => hk (by injection e with e; exact e.symm))
    rw [far, far, far, far, far, far, far, far, far, far]
  · intro B hB
    exact ((((((((((Below.refl B w).setCell (by exact hB) _).setCell (by exact hB) _).setCell (by exact hB) _).setCell (by exact hB) _).setCell (by exact hB) _).setCell (by exact hB) _).setCell (by exact hB) _).setCell (by exact hB) _).setCell (by exact hB) _).setCell (by exact hB) _
end Go.Proofs.Ytoeiheccmpjclaf

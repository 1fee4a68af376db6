/- Lemmas on the way, of several texts: Buck, SpecBuck, Cc, CcOk, NewCc, Loss, Quad, OwnQ, SpecBuck2, CcBoth, SpecCubLoss, SpecCubic. -/
import Derived.Test.YtkohlmloobojfaaGreatGrpAC
import Derived.Test.YtkohlmloobojfaaGreatGrpAG
import Derived.Lib.SmallJoins
import Derived.Test.YtkohlmloobojfaaGreatRows
import Derived.WalkKit
import Derived.ProofKit
import Derived.OpenShut
import Derived.Test.YtkohlmloobojfaaGreatGrpAB
import Derived.Handy
import Derived.Laws.AppendOwn
import Derived.Test.YtkohlmloobojfaaGreatGrpAD
namespace Go.Proofs.YtkohlmloobojfaaGreat
open Go.ChangeShapes Go.WideShapes Go.ChangeAt Go.RowKit
set_option maxRecDepth 100000
set_option linter.unusedVariables false
set_option linter.unusedSimpArgs false
section
variable {H : Type} {enc : TypeId × Value → H} {P : Program} {w : World} {sp : Nat → Bool} {held : Bool}
theorem open_ints4 {e i : TypeId} {f0 f1 f2 f3 : Field} (he : P.underlying e = some (.struct #[f0, f1, f2, f3])) (hi : P.underlying i = some (.int .i64)) (t0 : f0.type = i) (t1 : f1.type = i) (t2 : f2.type = i) (t3 : f3.type = i)
   (o0 : f0.offset = 0) (o1 : f1.offset = 1) (o2 : f2.offset = 2) (o3 : f3.offset = 3) (ci : P.cellsOf i = 1) (ce : P.cellsOf e = 4) {fuel : Nat} {cs : List Value} {x : DataW H × List MemPlace}
   (h : DataW.trod enc P w 0 sp held fuel e cs = some x) : ∃ p q r s : Int, cs = [.int .i64 p, .int .i64 q, .int .i64 r, .int .i64 s] ∧ I64 p ∧ I64 q ∧ I64 r ∧ I64 s := by
 obtain ⟨y0, y1, y2, y3, n, _, hl, h0, h1, h2, h3⟩ := Go.Joins.trod_struct4 he h
 rw [ce] at hl
 match cs, hl with
 | [a, b, c, d], _ =>
   rw [o0, t0, ci] at h0
   rw [o1, t1, ci] at h1
   rw [o2, t2, ci] at h2
   rw [o3, t3, ci] at h3
   obtain ⟨p, e0, _, w0⟩ := DataW.trod_int hi h0
   obtain ⟨q, e1, _, w1⟩ := DataW.trod_int hi h1
   obtain ⟨r, e2, _, w2⟩ := DataW.trod_int hi h2
   obtain ⟨s, e3, _, w3⟩ := DataW.trod_int hi h3
   simp only [List.drop_zero, List.take_succ_cons, List.take_zero, List.drop_succ_cons, List.cons.injEq, and_true] at e0 e1 e2 e3
   exact ⟨p, q, r, s, by rw [e0, e1, e2, e3], bounds_i64 w0, bounds_i64 w1, bounds_i64 w2, bounds_i64 w3⟩
end
theorem cells_four {w : World} {g : Nat} {a b c d : Value} (h0 : w.cell? ⟨g, 0, none⟩ = some a) (h1 : w.cell? ⟨g, 1, none⟩ = some b) (h2 : w.cell? ⟨g, 2, none⟩ = some c) (h3 : w.cell? ⟨g, 3, none⟩ = some d) : ∀ j v, [a, b, c, d][j]? = some v → w.cell? ⟨g, j, none⟩ = some v := by
 intro j v hv
 match j, hv with
 | 0, hv => obtain rfl : a = v := by simpa using hv
            exact h0
 | 1, hv => obtain rfl : b = v := by simpa using hv
            exact h1
 | 2, hv => obtain rfl : c = v := by simpa using hv
            exact h2
 | 3, hv => obtain rfl : d = v := by simpa using hv
            exact h3
theorem set_same4 {w : World} {a : Addr} {u : Value} (v : Value) (h : w.cell? a = some u) : (w.setCell a v).cell? a = some v := World.cell?_setCell_same' w a v (by rw [h]; rfl)
theorem set_other4 {w : World} {b i j : Nat} {v : Value} (h : i ≠ j) : (w.setCell ⟨b, i, none⟩ v).cell? ⟨b, j, none⟩ = w.cell? ⟨b, j, none⟩ := by
 apply World.cell?_setCell_other
 intro e
 injection e with _ e _
 exact h e
theorem below_cells4 {w w' : World} (h : Below w.heap.size w w') : ∀ b o : Nat, b < w.heap.size → w'.cell? ⟨b, o, none⟩ = w.cell? ⟨b, o, none⟩ := fun b o hb => h.cell (by exact hb)
theorem below_frozens4 {w w' : World} (h : Below w.heap.size w w') : ∀ b o : Nat, b < w.heap.size → w'.frozen? ⟨b, o, none⟩ = w.frozen? ⟨b, o, none⟩ := fun b o hb => h.frozen (by exact hb)
theorem below_two {w x y : World} (h : Below w.heap.size w x) (k : Below x.heap.size x y) : Below w.heap.size w y := h.trans (k.mono h.size)
def winB (x : Int) : Bool := decide (0 ≤ x) && decide (x ≤ 1000000000)
def segB (x : Int) : Bool := decide (1 ≤ x) && decide (x ≤ 1500)
def lvlB (u l : Int) : Bool := decide (0 ≤ l) && decide (l ≤ 1000000000 * u)
def bokB (r u l t : Int) : Bool := ((rateB r && winB u) && lvlB u l) && timeB t
theorem win_num {x : Int} (h : winB x = true) : 0 ≤ x ∧ x ≤ 1000000000 := by simpa [winB] using h
theorem window_any (x : Int) (w : World) : Calls Tryz.prog 123 #[.int .i64 x] w fun e w' => e = .returned (.bool (winB x)) ∧ w' = w := by
 go_enter Tryz.func123, Tryz.ntmps123
 go_wp2_with (first | (go_at_call 25; refine (in_any _ _ _ _).mono ?_; rintro e w2 ⟨rfl, rfl⟩))
 go_ret
 exact ⟨rfl, rfl⟩
theorem seg_any (x : Int) (w : World) : Calls Tryz.prog 130 #[.int .i64 x] w fun e w' => e = .returned (.bool (segB x)) ∧ w' = w := by
 go_enter Tryz.func130, Tryz.ntmps130
 go_wp2_with (first | (go_at_call 25; refine (in_any _ _ _ _).mono ?_; rintro e w2 ⟨rfl, rfl⟩))
 go_ret
 exact ⟨rfl, rfl⟩
set_option maxHeartbeats 1000000 in
theorem specBucketOk_any (r u l t : Int) (w : World) : Calls Tryz.prog 129 #[.agg #[.int .i64 r, .int .i64 u, .int .i64 l, .int .i64 t]] w fun e w' => e = .returned (.bool (bokB r u l t)) ∧ Below w.heap.size w w' := by
 unfold bokB
 cases h1 : rateB r
 · go_enter Tryz.func129, Tryz.ntmps129
   go_wp2_with (first | (go_at_call 163; refine (rate_any _ _).mono ?_; rintro e w2 ⟨rfl, rfl⟩; rw [h1]))
   go_ret
   exact ⟨rfl, by go_grown⟩
 · cases h2 : winB u
   · go_enter Tryz.func129, Tryz.ntmps129
     go_wp2_with (first | (go_at_call 163; refine (rate_any _ _).mono ?_; rintro e w2 ⟨rfl, rfl⟩; rw [h1]) | (go_at_call 123; refine (window_any _ _).mono ?_; rintro e w2 ⟨rfl, rfl⟩; rw [h2]))
     go_ret
     exact ⟨rfl, by go_grown⟩
   · have n2 := win_num h2
     cases h3 : lvlB u l
     · go_enter Tryz.func129, Tryz.ntmps129
       go_wp2_with (first
         | (go_at_call 163; refine (rate_any _ _).mono ?_; rintro e w2 ⟨rfl, rfl⟩; rw [h1])
         | (go_at_call 123; refine (window_any _ _).mono ?_; rintro e w2 ⟨rfl, rfl⟩; rw [h2])
         | (go_at_call 25; refine (in_any _ _ _ _).mono ?_; rintro e w2 ⟨rfl, rfl⟩; rw [show (decide (0 ≤ l) && decide (l ≤ 1000000000 * u)) = false from h3]))
       go_ret
       exact ⟨rfl, by go_grown⟩
     · go_enter Tryz.func129, Tryz.ntmps129
       go_wp2_with (first
         | (go_at_call 163; refine (rate_any _ _).mono ?_; rintro e w2 ⟨rfl, rfl⟩; rw [h1])
         | (go_at_call 123; refine (window_any _ _).mono ?_; rintro e w2 ⟨rfl, rfl⟩; rw [h2])
         | (go_at_call 25; refine (in_any _ _ _ _).mono ?_; rintro e w2 ⟨rfl, rfl⟩; rw [show (decide (0 ≤ l) && decide (l ≤ 1000000000 * u)) = true from h3])
         | (go_at_call 66; refine (time_any _ _).mono ?_; rintro e w2 ⟨rfl, rfl⟩))
       go_ret
       exact ⟨rfl, by go_grown⟩
theorem list10 {α : Type} {cs : List α} (h : cs.length = 10) : ∃ c0 c1 c2 c3 c4 c5 c6 c7 c8 c9, cs = [c0, c1, c2, c3, c4, c5, c6, c7, c8, c9] := by
 match cs, h with
 | [c0, c1, c2, c3, c4, c5, c6, c7, c8, c9], _ => exact ⟨c0, c1, c2, c3, c4, c5, c6, c7, c8, c9, rfl⟩
section
variable {H : Type} {enc : TypeId × Value → H} {P : Program} {w : World} {sp : Nat → Bool} {held : Bool}
theorem open_ints9b {e i b : TypeId} {f0 f1 f2 f3 f4 f5 f6 f7 f8 f9 : Field} (he : P.underlying e = some (.struct #[f0, f1, f2, f3, f4, f5, f6, f7, f8, f9])) (hi : P.underlying i = some (.int .i64)) (hb : P.underlying b = some .bool) (t0 : f0.type = i) (o0 : f0.offset = 0) (t1 : f1.type = i) (o1 : f1.offset = 1) (t2 : f2.type = i) (o2 : f2.offset = 2) (t3 : f3.type = i) (o3 : f3.offset = 3) (t4 : f4.type = i) (o4 : f4.offset = 4) (t5 : f5.type = i) (o5 : f5.offset = 5) (t6 : f6.type = i) (o6 : f6.offset = 6) (t7 : f7.type = i) (o7 : f7.offset = 7) (t8 : f8.type = i) (o8 : f8.offset = 8) (t9 : f9.type = b) (o9 : f9.offset = 9)
   (ci : P.cellsOf i = 1) (cb : P.cellsOf b = 1) (ce : P.cellsOf e = 10) {fuel : Nat} {cs : List Value} {x : DataW H × List MemPlace}
   (h : DataW.trod enc P w 0 sp held fuel e cs = some x) : ∃ (k wn th fl ac la og st fr : Int) (sl : Bool), cs = [.int .i64 k, .int .i64 wn, .int .i64 th, .int .i64 fl, .int .i64 ac, .int .i64 la, .int .i64 og, .int .i64 st, .int .i64 fr, .bool sl] ∧ I64 k ∧ I64 wn ∧ I64 th ∧ I64 fl ∧ I64 ac ∧ I64 la ∧ I64 og ∧ I64 st ∧ I64 fr := by
 obtain ⟨xs, n, _, rfl, hl, hlen, hf⟩ := DataW.trod_struct he h
 rw [ce] at hl
 obtain ⟨c0, c1, c2, c3, c4, c5, c6, c7, c8, c9, rfl⟩ := list10 hl
 obtain ⟨y0, y1, y2, y3, y4, y5, y6, y7, y8, y9, rfl⟩ := list10 (show xs.length = 10 from hlen)
 have h0 := hf 0 f0 rfl
 change _ = some y0 at h0
 rw [o0, t0, ci] at h0
 have h1 := hf 1 f1 rfl
 change _ = some y1 at h1
 rw [o1, t1, ci] at h1
 have h2 := hf 2 f2 rfl
 change _ = some y2 at h2
 rw [o2, t2, ci] at h2
 have h3 := hf 3 f3 rfl
 change _ = some y3 at h3
 rw [o3, t3, ci] at h3
 have h4 := hf 4 f4 rfl
 change _ = some y4 at h4
 rw [o4, t4, ci] at h4
 have h5 := hf 5 f5 rfl
 change _ = some y5 at h5
 rw [o5, t5, ci] at h5
 have h6 := hf 6 f6 rfl
 change _ = some y6 at h6
 rw [o6, t6, ci] at h6
 have h7 := hf 7 f7 rfl
 change _ = some y7 at h7
 rw [o7, t7, ci] at h7
 have h8 := hf 8 f8 rfl
 change _ = some y8 at h8
 rw [o8, t8, ci] at h8
 have h9 := hf 9 f9 rfl
 change _ = some y9 at h9
 rw [o9, t9, cb] at h9
 obtain ⟨k, e0, _, w0⟩ := DataW.trod_int hi h0
 obtain ⟨wn, e1, _, w1⟩ := DataW.trod_int hi h1
 obtain ⟨th, e2, _, w2⟩ := DataW.trod_int hi h2
 obtain ⟨fl, e3, _, w3⟩ := DataW.trod_int hi h3
 obtain ⟨ac, e4, _, w4⟩ := DataW.trod_int hi h4
 obtain ⟨la, e5, _, w5⟩ := DataW.trod_int hi h5
 obtain ⟨og, e6, _, w6⟩ := DataW.trod_int hi h6
 obtain ⟨st, e7, _, w7⟩ := DataW.trod_int hi h7
 obtain ⟨fr, e8, _, w8⟩ := DataW.trod_int hi h8
 obtain ⟨sl, e9, _⟩ := DataW.trod_bool hb h9
 simp only [List.drop_zero, List.take_succ_cons, List.take_zero, List.drop_succ_cons, List.cons.injEq, and_true] at e0 e1 e2 e3 e4 e5 e6 e7 e8 e9
 exact ⟨k, wn, th, fl, ac, la, og, st, fr, sl, by rw [e0, e1, e2, e3, e4, e5, e6, e7, e8, e9], bounds_i64 w0, bounds_i64 w1, bounds_i64 w2, bounds_i64 w3, bounds_i64 w4, bounds_i64 w5, bounds_i64 w6, bounds_i64 w7, bounds_i64 w8⟩
end
theorem cells_ten {w : World} {g : Nat} {c0 c1 c2 c3 c4 c5 c6 c7 c8 c9 : Value} (h0 : w.cell? ⟨g, 0, none⟩ = some c0) (h1 : w.cell? ⟨g, 1, none⟩ = some c1) (h2 : w.cell? ⟨g, 2, none⟩ = some c2) (h3 : w.cell? ⟨g, 3, none⟩ = some c3) (h4 : w.cell? ⟨g, 4, none⟩ = some c4) (h5 : w.cell? ⟨g, 5, none⟩ = some c5) (h6 : w.cell? ⟨g, 6, none⟩ = some c6) (h7 : w.cell? ⟨g, 7, none⟩ = some c7) (h8 : w.cell? ⟨g, 8, none⟩ = some c8) (h9 : w.cell? ⟨g, 9, none⟩ = some c9) : ∀ j v, [c0, c1, c2, c3, c4, c5, c6, c7, c8, c9][j]? = some v → w.cell? ⟨g, j, none⟩ = some v := by
 intro j v hv
 match j, hv with
 | 0, hv => obtain rfl : c0 = v := by simpa using hv
            exact h0
 | 1, hv => obtain rfl : c1 = v := by simpa using hv
            exact h1
 | 2, hv => obtain rfl : c2 = v := by simpa using hv
            exact h2
 | 3, hv => obtain rfl : c3 = v := by simpa using hv
            exact h3
 | 4, hv => obtain rfl : c4 = v := by simpa using hv
            exact h4
 | 5, hv => obtain rfl : c5 = v := by simpa using hv
            exact h5
 | 6, hv => obtain rfl : c6 = v := by simpa using hv
            exact h6
 | 7, hv => obtain rfl : c7 = v := by simpa using hv
            exact h7
 | 8, hv => obtain rfl : c8 = v := by simpa using hv
            exact h8
 | 9, hv => obtain rfl : c9 = v := by simpa using hv
            exact h9
/-- A struct of ten is stored over: the world behind it as a letter. -/
theorem over10 {w : World} {g : Nat} {u0 u1 u2 u3 u4 u5 u6 u7 u8 u9 : Value} (c0 c1 c2 c3 c4 c5 c6 c7 c8 c9 : Value) (h0 : w.cell? ⟨g, 0, none⟩ = some u0) (h1 : w.cell? ⟨g, 1, none⟩ = some u1) (h2 : w.cell? ⟨g, 2, none⟩ = some u2) (h3 : w.cell? ⟨g, 3, none⟩ = some u3) (h4 : w.cell? ⟨g, 4, none⟩ = some u4) (h5 : w.cell? ⟨g, 5, none⟩ = some u5) (h6 : w.cell? ⟨g, 6, none⟩ = some u6) (h7 : w.cell? ⟨g, 7, none⟩ = some u7) (h8 : w.cell? ⟨g, 8, none⟩ = some u8) (h9 : w.cell? ⟨g, 9, none⟩ = some u9) :
   ∃ w4, w4 = ((((((((((w.setCell ⟨g, 0, none⟩ c0).setCell ⟨g, 1, none⟩ c1).setCell ⟨g, 2, none⟩ c2).setCell ⟨g, 3, none⟩ c3).setCell ⟨g, 4, none⟩ c4).setCell ⟨g, 5, none⟩ c5).setCell ⟨g, 6, none⟩ c6).setCell ⟨g, 7, none⟩ c7).setCell ⟨g, 8, none⟩ c8).setCell ⟨g, 9, none⟩ c9) ∧ (∀ j v, [c0, c1, c2, c3, c4, c5, c6, c7, c8, c9][j]? = some v → w4.cell? ⟨g, j, none⟩ = some v) ∧
     (∀ k o : Nat, k ≠ g → w4.cell? ⟨k, o, none⟩ = w.cell? ⟨k, o, none⟩) ∧ (∀ k o : Nat, w4.frozen? ⟨k, o, none⟩ = w.frozen? ⟨k, o, none⟩) ∧ w4.heap.size = w.heap.size ∧ (∀ B, B ≤ g → Below B w w4) := by
 refine ⟨_, rfl, ?_, ?_, fun k o => by simp, by simp, ?_⟩
 · refine cells_ten ?_ ?_ ?_ ?_ ?_ ?_ ?_ ?_ ?_ ?_
   · exact ((set_other4 (by decide)).trans ((set_other4 (by decide)).trans ((set_other4 (by decide)).trans ((set_other4 (by decide)).trans ((set_other4 (by decide)).trans ((set_other4 (by decide)).trans ((set_other4 (by decide)).trans ((set_other4 (by decide)).trans ((set_other4 (by decide)).trans (set_same4 _ h0))))))))))
   · exact ((set_other4 (by decide)).trans ((set_other4 (by decide)).trans ((set_other4 (by decide)).trans ((set_other4 (by decide)).trans ((set_other4 (by decide)).trans ((set_other4 (by decide)).trans ((set_other4 (by decide)).trans ((set_other4 (by decide)).trans (set_same4 _ ((set_other4 (by decide)).trans h1))))))))))
   · exact ((set_other4 (by decide)).trans ((set_other4 (by decide)).trans ((set_other4 (by decide)).trans ((set_other4 (by decide)).trans ((set_other4 (by decide)).trans ((set_other4 (by decide)).trans ((set_other4 (by decide)).trans (set_same4 _ ((set_other4 (by decide)).trans ((set_other4 (by decide)).trans h2))))))))))
   · exact ((set_other4 (by decide)).trans ((set_other4 (by decide)).trans ((set_other4 (by decide)).trans ((set_other4 (by decide)).trans ((set_other4 (by decide)).trans ((set_other4 (by decide)).trans (set_same4 _ ((set_other4 (by decide)).trans ((set_other4 (by decide)).trans ((set_other4 (by decide)).trans h3))))))))))
   · exact ((set_other4 (by decide)).trans ((set_other4 (by decide)).trans ((set_other4 (by decide)).trans ((set_other4 (by decide)).trans ((set_other4 (by decide)).trans (set_same4 _ ((set_other4 (by decide)).trans ((set_other4 (by decide)).trans ((set_other4 (by decide)).trans ((set_other4 (by decide)).trans h4))))))))))
   · exact ((set_other4 (by decide)).trans ((set_other4 (by decide)).trans ((set_other4 (by decide)).trans ((set_other4 (by decide)).trans (set_same4 _ ((set_other4 (by decide)).trans ((set_other4 (by decide)).trans ((set_other4 (by decide)).trans ((set_other4 (by decide)).trans ((set_other4 (by decide)).trans h5))))))))))
   · exact ((set_other4 (by decide)).trans ((set_other4 (by decide)).trans ((set_other4 (by decide)).trans (set_same4 _ ((set_other4 (by decide)).trans ((set_other4 (by decide)).trans ((set_other4 (by decide)).trans ((set_other4 (by decide)).trans ((set_other4 (by decide)).trans ((set_other4 (by decide)).trans h6))))))))))
   · exact ((set_other4 (by decide)).trans ((set_other4 (by decide)).trans (set_same4 _ ((set_other4 (by decide)).trans ((set_other4 (by decide)).trans ((set_other4 (by decide)).trans ((set_other4 (by decide)).trans ((set_other4 (by decide)).trans ((set_other4 (by decide)).trans ((set_other4 (by decide)).trans h7))))))))))
   · exact ((set_other4 (by decide)).trans (set_same4 _ ((set_other4 (by decide)).trans ((set_other4 (by decide)).trans ((set_other4 (by decide)).trans ((set_other4 (by decide)).trans ((set_other4 (by decide)).trans ((set_other4 (by decide)).trans ((set_other4 (by decide)).trans ((set_other4 (by decide)).trans h8))))))))))
   · exact (set_same4 _ ((set_other4 (by decide)).trans ((set_other4 (by decide)).trans ((set_other4 (by decide)).trans ((set_other4 (by decide)).trans ((set_other4 (by decide)).trans ((set_other4 (by decide)).trans ((set_other4 (by decide)).trans ((set_other4 (by decide)).trans ((set_other4 (by decide)).trans h9))))))))))
 · intro k o hk
   have far : ∀ (x : World) (i : Nat) (v : Value), (x.setCell ⟨g, i, none⟩ v).cell? ⟨k, o, none⟩ = x.cell? ⟨k, o, none⟩ := fun x i v => World.cell?_setCell_other _ _ _ _ (fun e => hk (by injection e with e; exact e.symm))
   rw [far, far, far, far, far, far, far, far, far, far]
 · intro B hB
   exact ((((((((((Below.refl B w).setCell (by exact hB) _).setCell (by exact hB) _).setCell (by exact hB) _).setCell (by exact hB) _).setCell (by exact hB) _).setCell (by exact hB) _).setCell (by exact hB) _).setCell (by exact hB) _).setCell (by exact hB) _).setCell (by exact hB) _
theorem toCc_any (k wn th fl ac la og st fr : Int) (sl : Bool) (w : World) :
   Calls Tryz.prog 135 #[.agg #[.int .i64 k, .int .i64 wn, .int .i64 th, .int .i64 fl, .int .i64 ac, .int .i64 la, .int .i64 og, .int .i64 st, .int .i64 fr, .bool sl]] w fun e w' => e = .returned (.agg #[.int .i64 k, .int .i64 wn, .int .i64 th, .int .i64 fl, .int .i64 ac, .int .i64 la, .int .i64 og, .int .i64 st, .int .i64 fr, .bool sl]) ∧ Below w.heap.size w w' := by
 go_enter Tryz.func135, Tryz.ntmps135
 go_wp2
 refine bodyPost_ret (results_one rfl _ _ _ [.int .i64 k, .int .i64 wn, .int .i64 th, .int .i64 fl, .int .i64 ac, .int .i64 la, .int .i64 og, .int .i64 st, .int .i64 fr, .bool sl] rfl (cells_ten (by go_simp) (by go_simp) (by go_simp) (by go_simp) (by go_simp) (by go_simp) (by go_simp) (by go_simp) (by go_simp) (by go_simp)) Tryz.underlying62 rfl (by kernel_rfl)) rfl ?_
 exact ⟨rfl, by go_grown⟩
theorem eqCc_same (k wn th fl ac la og st fr : Int) (sl : Bool) (w : World) :
   Calls Tryz.prog 154 #[.agg #[.int .i64 k, .int .i64 wn, .int .i64 th, .int .i64 fl, .int .i64 ac, .int .i64 la, .int .i64 og, .int .i64 st, .int .i64 fr, .bool sl], .agg #[.int .i64 k, .int .i64 wn, .int .i64 th, .int .i64 fl, .int .i64 ac, .int .i64 la, .int .i64 og, .int .i64 st, .int .i64 fr, .bool sl]] w fun e w' => e = .returned (.bool true) ∧ Below w.heap.size w w' := by
 cases sl
 all_goals
   go_enter Tryz.func154, Tryz.ntmps154
   go_wp2
   go_ret
   exact ⟨rfl, by go_grown⟩
def kindB (x : Int) : Bool := decide (1 ≤ x) && decide (x ≤ 3)
def openB (x : Int) : Bool := decide (3000 ≤ x) && decide (x ≤ 1000000000)
def w10B (x : Int) : Bool := decide (0 ≤ x) && decide (x ≤ 1000000000)
/-- When a Cc is right. -/
def ccB (k wn th fl ac la og st fr : Int) : Bool := ((((((((kindB k && openB wn) && openB th) && w10B fl) && w10B ac) && w10B la) && w10B og) && w10B fr) && timeB st)
theorem cc_num {k wn th fl ac la og st fr : Int} (h : ccB k wn th fl ac la og st fr = true) : (1 ≤ k ∧ k ≤ 3) ∧ (3000 ≤ wn ∧ wn ≤ 1000000000) ∧ (3000 ≤ th ∧ th ≤ 1000000000) ∧ (0 ≤ fl ∧ fl ≤ 1000000000) ∧ (0 ≤ ac ∧ ac ≤ 1000000000) ∧ (0 ≤ la ∧ la ≤ 1000000000) ∧ (0 ≤ og ∧ og ≤ 1000000000) ∧ (0 ≤ st ∧ st ≤ 1000000000000000) ∧ (0 ≤ fr ∧ fr ≤ 1000000000) := by
 unfold ccB kindB openB w10B timeB at h
 simp only [Bool.and_eq_true, decide_eq_true_eq] at h
 omega
theorem sBig_is {x : Int} {f : Bool} (h : openB x = f) (w : World) : Calls Tryz.prog 131 #[.int .i64 x] w fun e w' => e = .returned (.bool f) ∧ w' = w := by
 subst h
 go_enter Tryz.func131, Tryz.ntmps131
 go_wp2_with (first | (go_at_call 25; refine (in_any _ _ _ _).mono ?_; rintro e w2 ⟨rfl, rfl⟩))
 go_ret
 exact ⟨rfl, rfl⟩
theorem sWin_is {x : Int} {f : Bool} (h : w10B x = f) (w : World) : Calls Tryz.prog 123 #[.int .i64 x] w fun e w' => e = .returned (.bool f) ∧ w' = w := by
 subst h
 go_enter Tryz.func123, Tryz.ntmps123
 go_wp2_with (first | (go_at_call 25; refine (in_any _ _ _ _).mono ?_; rintro e w2 ⟨rfl, rfl⟩))
 go_ret
 exact ⟨rfl, rfl⟩
theorem sTim_is {x : Int} {f : Bool} (h : timeB x = f) (w : World) : Calls Tryz.prog 66 #[.int .i64 x] w fun e w' => e = .returned (.bool f) ∧ w' = w := by
 subst h
 go_enter Tryz.func66, Tryz.ntmps66
 go_wp2_with (first | (go_at_call 25; refine (in_any _ _ _ _).mono ?_; rintro e w2 ⟨rfl, rfl⟩))
 go_ret
 exact ⟨rfl, rfl⟩
theorem iKind_is {x : Int} {f : Bool} (h : kindB x = f) (w : World) : Calls Tryz.prog 97 #[.int .i64 x] w fun e w' => e = .returned (.bool f) ∧ w' = w := by
 subst h
 go_enter Tryz.func97, Tryz.ntmps97
 go_wp2_with (first | (go_at_call 77; refine (iwithin_any _ _ _ _).mono ?_; rintro e w2 ⟨rfl, rfl⟩))
 go_ret
 exact ⟨rfl, rfl⟩
theorem iOpen_is {x : Int} {f : Bool} (h : openB x = f) (w : World) : Calls Tryz.prog 148 #[.int .i64 x] w fun e w' => e = .returned (.bool f) ∧ w' = w := by
 subst h
 go_enter Tryz.func148, Tryz.ntmps148
 go_wp2_with (first | (go_at_call 77; refine (iwithin_any _ _ _ _).mono ?_; rintro e w2 ⟨rfl, rfl⟩))
 go_ret
 exact ⟨rfl, rfl⟩
theorem iWin_is {x : Int} {f : Bool} (h : w10B x = f) (w : World) : Calls Tryz.prog 124 #[.int .i64 x] w fun e w' => e = .returned (.bool f) ∧ w' = w := by
 subst h
 go_enter Tryz.func124, Tryz.ntmps124
 go_wp2_with (first | (go_at_call 77; refine (iwithin_any _ _ _ _).mono ?_; rintro e w2 ⟨rfl, rfl⟩))
 go_ret
 exact ⟨rfl, rfl⟩
theorem iTim_is {x : Int} {f : Bool} (h : timeB x = f) (w : World) : Calls Tryz.prog 168 #[.int .i64 x] w fun e w' => e = .returned (.bool f) ∧ w' = w := by
 subst h
 go_enter Tryz.func168, Tryz.ntmps168
 go_wp2_with (first | (go_at_call 77; refine (iwithin_any _ _ _ _).mono ?_; rintro e w2 ⟨rfl, rfl⟩))
 go_ret
 exact ⟨rfl, rfl⟩
theorem sKind_is {x : Int} {f : Bool} (h : kindB x = f) (w : World) : Calls Tryz.prog 25 #[.int .i64 x, .int .i64 1, .int .i64 3] w fun e w' => e = .returned (.bool f) ∧ w' = w := by subst h; exact in_any 1 x 3 w
set_option maxHeartbeats 4000000 in
theorem specCcOk_any (k wn th fl ac la og st fr : Int) (sl : Bool) (w : World) : Calls Tryz.prog 114 #[.agg #[.int .i64 k, .int .i64 wn, .int .i64 th, .int .i64 fl, .int .i64 ac, .int .i64 la, .int .i64 og, .int .i64 st, .int .i64 fr, .bool sl]] w fun e w' => e = .returned (.bool (ccB k wn th fl ac la og st fr)) ∧ w' = w.alloc (.cells #[.int .i64 k, .int .i64 wn, .int .i64 th, .int .i64 fl, .int .i64 ac, .int .i64 la, .int .i64 og, .int .i64 st, .int .i64 fr, .bool sl] 62) := by
 have key : ∀ fk fwn fth ffl fac fla fog ffr fst : Bool, kindB k = fk → openB wn = fwn → openB th = fth → w10B fl = ffl → w10B ac = fac → w10B la = fla → w10B og = fog → w10B fr = ffr → timeB st = fst → Calls Tryz.prog 114 #[.agg #[.int .i64 k, .int .i64 wn, .int .i64 th, .int .i64 fl, .int .i64 ac, .int .i64 la, .int .i64 og, .int .i64 st, .int .i64 fr, .bool sl]] w fun e w' => e = .returned (.bool (((((((((fk && fwn) && fth) && ffl) && fac) && fla) && fog) && ffr) && fst))) ∧ w' = w.alloc (.cells #[.int .i64 k, .int .i64 wn, .int .i64 th, .int .i64 fl, .int .i64 ac, .int .i64 la, .int .i64 og, .int .i64 st, .int .i64 fr, .bool sl] 62) := by
   intro fk fwn fth ffl fac fla fog ffr fst hk hwn hth hfl hac hla hog hfr hst
   cases fk
   · go_enter Tryz.func114, Tryz.ntmps114
     go_wp2_with (first
       | (go_at_call 25; refine (sKind_is hk _).mono ?_; rintro e w2 ⟨rfl, rfl⟩))
     go_ret
     exact ⟨rfl, rfl⟩
   cases fwn
   · go_enter Tryz.func114, Tryz.ntmps114
     go_wp2_with (first
       | (go_at_call 25; refine (sKind_is hk _).mono ?_; rintro e w2 ⟨rfl, rfl⟩)
       | (go_at_call 131; refine (sBig_is hwn _).mono ?_; rintro e w2 ⟨rfl, rfl⟩))
     go_ret
     exact ⟨rfl, rfl⟩
   cases fth
   · go_enter Tryz.func114, Tryz.ntmps114
     go_wp2_with (first
       | (go_at_call 25; refine (sKind_is hk _).mono ?_; rintro e w2 ⟨rfl, rfl⟩)
       | (go_at_call 131; refine (sBig_is hwn _).mono ?_; rintro e w2 ⟨rfl, rfl⟩)
       | (go_at_call 131; refine (sBig_is hth _).mono ?_; rintro e w2 ⟨rfl, rfl⟩))
     go_ret
     exact ⟨rfl, rfl⟩
   cases ffl
   · go_enter Tryz.func114, Tryz.ntmps114
     go_wp2_with (first
       | (go_at_call 25; refine (sKind_is hk _).mono ?_; rintro e w2 ⟨rfl, rfl⟩)
       | (go_at_call 131; refine (sBig_is hwn _).mono ?_; rintro e w2 ⟨rfl, rfl⟩)
       | (go_at_call 131; refine (sBig_is hth _).mono ?_; rintro e w2 ⟨rfl, rfl⟩)
       | (go_at_call 123; refine (sWin_is hfl _).mono ?_; rintro e w2 ⟨rfl, rfl⟩))
     go_ret
     exact ⟨rfl, rfl⟩
   cases fac
   · go_enter Tryz.func114, Tryz.ntmps114
     go_wp2_with (first
       | (go_at_call 25; refine (sKind_is hk _).mono ?_; rintro e w2 ⟨rfl, rfl⟩)
       | (go_at_call 131; refine (sBig_is hwn _).mono ?_; rintro e w2 ⟨rfl, rfl⟩)
       | (go_at_call 131; refine (sBig_is hth _).mono ?_; rintro e w2 ⟨rfl, rfl⟩)
       | (go_at_call 123; refine (sWin_is hfl _).mono ?_; rintro e w2 ⟨rfl, rfl⟩)
       | (go_at_call 123; refine (sWin_is hac _).mono ?_; rintro e w2 ⟨rfl, rfl⟩))
     go_ret
     exact ⟨rfl, rfl⟩
   cases fla
   · go_enter Tryz.func114, Tryz.ntmps114
     go_wp2_with (first
       | (go_at_call 25; refine (sKind_is hk _).mono ?_; rintro e w2 ⟨rfl, rfl⟩)
       | (go_at_call 131; refine (sBig_is hwn _).mono ?_; rintro e w2 ⟨rfl, rfl⟩)
       | (go_at_call 131; refine (sBig_is hth _).mono ?_; rintro e w2 ⟨rfl, rfl⟩)
       | (go_at_call 123; refine (sWin_is hfl _).mono ?_; rintro e w2 ⟨rfl, rfl⟩)
       | (go_at_call 123; refine (sWin_is hac _).mono ?_; rintro e w2 ⟨rfl, rfl⟩)
       | (go_at_call 123; refine (sWin_is hla _).mono ?_; rintro e w2 ⟨rfl, rfl⟩))
     go_ret
     exact ⟨rfl, rfl⟩
   cases fog
   · go_enter Tryz.func114, Tryz.ntmps114
     go_wp2_with (first
       | (go_at_call 25; refine (sKind_is hk _).mono ?_; rintro e w2 ⟨rfl, rfl⟩)
       | (go_at_call 131; refine (sBig_is hwn _).mono ?_; rintro e w2 ⟨rfl, rfl⟩)
       | (go_at_call 131; refine (sBig_is hth _).mono ?_; rintro e w2 ⟨rfl, rfl⟩)
       | (go_at_call 123; refine (sWin_is hfl _).mono ?_; rintro e w2 ⟨rfl, rfl⟩)
       | (go_at_call 123; refine (sWin_is hac _).mono ?_; rintro e w2 ⟨rfl, rfl⟩)
       | (go_at_call 123; refine (sWin_is hla _).mono ?_; rintro e w2 ⟨rfl, rfl⟩)
       | (go_at_call 123; refine (sWin_is hog _).mono ?_; rintro e w2 ⟨rfl, rfl⟩))
     go_ret
     exact ⟨rfl, rfl⟩
   cases ffr
   · go_enter Tryz.func114, Tryz.ntmps114
     go_wp2_with (first
       | (go_at_call 25; refine (sKind_is hk _).mono ?_; rintro e w2 ⟨rfl, rfl⟩)
       | (go_at_call 131; refine (sBig_is hwn _).mono ?_; rintro e w2 ⟨rfl, rfl⟩)
       | (go_at_call 131; refine (sBig_is hth _).mono ?_; rintro e w2 ⟨rfl, rfl⟩)
       | (go_at_call 123; refine (sWin_is hfl _).mono ?_; rintro e w2 ⟨rfl, rfl⟩)
       | (go_at_call 123; refine (sWin_is hac _).mono ?_; rintro e w2 ⟨rfl, rfl⟩)
       | (go_at_call 123; refine (sWin_is hla _).mono ?_; rintro e w2 ⟨rfl, rfl⟩)
       | (go_at_call 123; refine (sWin_is hog _).mono ?_; rintro e w2 ⟨rfl, rfl⟩)
       | (go_at_call 123; refine (sWin_is hfr _).mono ?_; rintro e w2 ⟨rfl, rfl⟩))
     go_ret
     exact ⟨rfl, rfl⟩
   cases fst
   · go_enter Tryz.func114, Tryz.ntmps114
     go_wp2_with (first
       | (go_at_call 25; refine (sKind_is hk _).mono ?_; rintro e w2 ⟨rfl, rfl⟩)
       | (go_at_call 131; refine (sBig_is hwn _).mono ?_; rintro e w2 ⟨rfl, rfl⟩)
       | (go_at_call 131; refine (sBig_is hth _).mono ?_; rintro e w2 ⟨rfl, rfl⟩)
       | (go_at_call 123; refine (sWin_is hfl _).mono ?_; rintro e w2 ⟨rfl, rfl⟩)
       | (go_at_call 123; refine (sWin_is hac _).mono ?_; rintro e w2 ⟨rfl, rfl⟩)
       | (go_at_call 123; refine (sWin_is hla _).mono ?_; rintro e w2 ⟨rfl, rfl⟩)
       | (go_at_call 123; refine (sWin_is hog _).mono ?_; rintro e w2 ⟨rfl, rfl⟩)
       | (go_at_call 123; refine (sWin_is hfr _).mono ?_; rintro e w2 ⟨rfl, rfl⟩)
       | (go_at_call 66; refine (sTim_is hst _).mono ?_; rintro e w2 ⟨rfl, rfl⟩))
     go_ret
     exact ⟨rfl, rfl⟩
   go_enter Tryz.func114, Tryz.ntmps114
   go_wp2_with (first
     | (go_at_call 25; refine (sKind_is hk _).mono ?_; rintro e w2 ⟨rfl, rfl⟩)
     | (go_at_call 131; refine (sBig_is hwn _).mono ?_; rintro e w2 ⟨rfl, rfl⟩)
     | (go_at_call 131; refine (sBig_is hth _).mono ?_; rintro e w2 ⟨rfl, rfl⟩)
     | (go_at_call 123; refine (sWin_is hfl _).mono ?_; rintro e w2 ⟨rfl, rfl⟩)
     | (go_at_call 123; refine (sWin_is hac _).mono ?_; rintro e w2 ⟨rfl, rfl⟩)
     | (go_at_call 123; refine (sWin_is hla _).mono ?_; rintro e w2 ⟨rfl, rfl⟩)
     | (go_at_call 123; refine (sWin_is hog _).mono ?_; rintro e w2 ⟨rfl, rfl⟩)
     | (go_at_call 123; refine (sWin_is hfr _).mono ?_; rintro e w2 ⟨rfl, rfl⟩)
     | (go_at_call 66; refine (sTim_is hst _).mono ?_; rintro e w2 ⟨rfl, rfl⟩))
   go_ret
   exact ⟨rfl, rfl⟩
 exact key _ _ _ _ _ _ _ _ _ rfl rfl rfl rfl rfl rfl rfl rfl rfl
theorem specCcOk_is {k wn th fl ac la og st fr : Int} {f : Bool} (h : ccB k wn th fl ac la og st fr = f) (sl : Bool) (w : World) : Calls Tryz.prog 114 #[.agg #[.int .i64 k, .int .i64 wn, .int .i64 th, .int .i64 fl, .int .i64 ac, .int .i64 la, .int .i64 og, .int .i64 st, .int .i64 fr, .bool sl]] w fun e w' => e = .returned (.bool f) ∧ w' = w.alloc (.cells #[.int .i64 k, .int .i64 wn, .int .i64 th, .int .i64 fl, .int .i64 ac, .int .i64 la, .int .i64 og, .int .i64 st, .int .i64 fr, .bool sl] 62) := by
 subst h; exact specCcOk_any k wn th fl ac la og st fr sl w
set_option maxHeartbeats 4000000 in
theorem implCcOk_any (k wn th fl ac la og st fr : Int) (sl : Bool) (w : World) : Calls Tryz.prog 140 #[.agg #[.int .i64 k, .int .i64 wn, .int .i64 th, .int .i64 fl, .int .i64 ac, .int .i64 la, .int .i64 og, .int .i64 st, .int .i64 fr, .bool sl]] w fun e w' => e = .returned (.bool (ccB k wn th fl ac la og st fr)) ∧ w' = w.alloc (.cells #[.int .i64 k, .int .i64 wn, .int .i64 th, .int .i64 fl, .int .i64 ac, .int .i64 la, .int .i64 og, .int .i64 st, .int .i64 fr, .bool sl] 62) := by
 have key : ∀ fk fwn fth fst ffl fac fla fog ffr : Bool, kindB k = fk → openB wn = fwn → openB th = fth → timeB st = fst → w10B fl = ffl → w10B ac = fac → w10B la = fla → w10B og = fog → w10B fr = ffr → Calls Tryz.prog 140 #[.agg #[.int .i64 k, .int .i64 wn, .int .i64 th, .int .i64 fl, .int .i64 ac, .int .i64 la, .int .i64 og, .int .i64 st, .int .i64 fr, .bool sl]] w fun e w' => e = .returned (.bool (((((((((fk && fwn) && fth) && ffl) && fac) && fla) && fog) && ffr) && fst))) ∧ w' = w.alloc (.cells #[.int .i64 k, .int .i64 wn, .int .i64 th, .int .i64 fl, .int .i64 ac, .int .i64 la, .int .i64 og, .int .i64 st, .int .i64 fr, .bool sl] 62) := by
   intro fk fwn fth fst ffl fac fla fog ffr hk hwn hth hst hfl hac hla hog hfr
   cases fk
   · go_enter Tryz.func140, Tryz.ntmps140
     go_wp2_with (first
       | (go_at_call 97; refine (iKind_is hk _).mono ?_; rintro e w2 ⟨rfl, rfl⟩))
     go_ret
     exact ⟨rfl, rfl⟩
   cases fwn
   · go_enter Tryz.func140, Tryz.ntmps140
     go_wp2_with (first
       | (go_at_call 97; refine (iKind_is hk _).mono ?_; rintro e w2 ⟨rfl, rfl⟩)
       | (go_at_call 148; refine (iOpen_is hwn _).mono ?_; rintro e w2 ⟨rfl, rfl⟩))
     go_ret
     exact ⟨rfl, rfl⟩
   cases fth
   · go_enter Tryz.func140, Tryz.ntmps140
     go_wp2_with (first
       | (go_at_call 97; refine (iKind_is hk _).mono ?_; rintro e w2 ⟨rfl, rfl⟩)
       | (go_at_call 148; refine (iOpen_is hwn _).mono ?_; rintro e w2 ⟨rfl, rfl⟩)
       | (go_at_call 148; refine (iOpen_is hth _).mono ?_; rintro e w2 ⟨rfl, rfl⟩))
     go_ret
     exact ⟨rfl, rfl⟩
   cases fst
   · rw [Bool.and_false]
     go_enter Tryz.func140, Tryz.ntmps140
     go_wp2_with (first
       | (go_at_call 97; refine (iKind_is hk _).mono ?_; rintro e w2 ⟨rfl, rfl⟩)
       | (go_at_call 148; refine (iOpen_is hwn _).mono ?_; rintro e w2 ⟨rfl, rfl⟩)
       | (go_at_call 148; refine (iOpen_is hth _).mono ?_; rintro e w2 ⟨rfl, rfl⟩)
       | (go_at_call 168; refine (iTim_is hst _).mono ?_; rintro e w2 ⟨rfl, rfl⟩))
     go_ret
     exact ⟨rfl, rfl⟩
   cases ffl
   · go_enter Tryz.func140, Tryz.ntmps140
     go_wp2_with (first
       | (go_at_call 97; refine (iKind_is hk _).mono ?_; rintro e w2 ⟨rfl, rfl⟩)
       | (go_at_call 148; refine (iOpen_is hwn _).mono ?_; rintro e w2 ⟨rfl, rfl⟩)
       | (go_at_call 148; refine (iOpen_is hth _).mono ?_; rintro e w2 ⟨rfl, rfl⟩)
       | (go_at_call 168; refine (iTim_is hst _).mono ?_; rintro e w2 ⟨rfl, rfl⟩)
       | (go_at_call 124; refine (iWin_is hfl _).mono ?_; rintro e w2 ⟨rfl, rfl⟩))
     go_ret
     exact ⟨rfl, rfl⟩
   cases fac
   · go_enter Tryz.func140, Tryz.ntmps140
     go_wp2_with (first
       | (go_at_call 97; refine (iKind_is hk _).mono ?_; rintro e w2 ⟨rfl, rfl⟩)
       | (go_at_call 148; refine (iOpen_is hwn _).mono ?_; rintro e w2 ⟨rfl, rfl⟩)
       | (go_at_call 148; refine (iOpen_is hth _).mono ?_; rintro e w2 ⟨rfl, rfl⟩)
       | (go_at_call 168; refine (iTim_is hst _).mono ?_; rintro e w2 ⟨rfl, rfl⟩)
       | (go_at_call 124; refine (iWin_is hfl _).mono ?_; rintro e w2 ⟨rfl, rfl⟩)
       | (go_at_call 124; refine (iWin_is hac _).mono ?_; rintro e w2 ⟨rfl, rfl⟩))
     go_ret
     exact ⟨rfl, rfl⟩
   cases fla
   · go_enter Tryz.func140, Tryz.ntmps140
     go_wp2_with (first
       | (go_at_call 97; refine (iKind_is hk _).mono ?_; rintro e w2 ⟨rfl, rfl⟩)
       | (go_at_call 148; refine (iOpen_is hwn _).mono ?_; rintro e w2 ⟨rfl, rfl⟩)
       | (go_at_call 148; refine (iOpen_is hth _).mono ?_; rintro e w2 ⟨rfl, rfl⟩)
       | (go_at_call 168; refine (iTim_is hst _).mono ?_; rintro e w2 ⟨rfl, rfl⟩)
       | (go_at_call 124; refine (iWin_is hfl _).mono ?_; rintro e w2 ⟨rfl, rfl⟩)
       | (go_at_call 124; refine (iWin_is hac _).mono ?_; rintro e w2 ⟨rfl, rfl⟩)
       | (go_at_call 124; refine (iWin_is hla _).mono ?_; rintro e w2 ⟨rfl, rfl⟩))
     go_ret
     exact ⟨rfl, rfl⟩
   cases fog
   · go_enter Tryz.func140, Tryz.ntmps140
     go_wp2_with (first
       | (go_at_call 97; refine (iKind_is hk _).mono ?_; rintro e w2 ⟨rfl, rfl⟩)
       | (go_at_call 148; refine (iOpen_is hwn _).mono ?_; rintro e w2 ⟨rfl, rfl⟩)
       | (go_at_call 148; refine (iOpen_is hth _).mono ?_; rintro e w2 ⟨rfl, rfl⟩)
       | (go_at_call 168; refine (iTim_is hst _).mono ?_; rintro e w2 ⟨rfl, rfl⟩)
       | (go_at_call 124; refine (iWin_is hfl _).mono ?_; rintro e w2 ⟨rfl, rfl⟩)
       | (go_at_call 124; refine (iWin_is hac _).mono ?_; rintro e w2 ⟨rfl, rfl⟩)
       | (go_at_call 124; refine (iWin_is hla _).mono ?_; rintro e w2 ⟨rfl, rfl⟩)
       | (go_at_call 124; refine (iWin_is hog _).mono ?_; rintro e w2 ⟨rfl, rfl⟩))
     go_ret
     exact ⟨rfl, rfl⟩
   cases ffr
   · go_enter Tryz.func140, Tryz.ntmps140
     go_wp2_with (first
       | (go_at_call 97; refine (iKind_is hk _).mono ?_; rintro e w2 ⟨rfl, rfl⟩)
       | (go_at_call 148; refine (iOpen_is hwn _).mono ?_; rintro e w2 ⟨rfl, rfl⟩)
       | (go_at_call 148; refine (iOpen_is hth _).mono ?_; rintro e w2 ⟨rfl, rfl⟩)
       | (go_at_call 168; refine (iTim_is hst _).mono ?_; rintro e w2 ⟨rfl, rfl⟩)
       | (go_at_call 124; refine (iWin_is hfl _).mono ?_; rintro e w2 ⟨rfl, rfl⟩)
       | (go_at_call 124; refine (iWin_is hac _).mono ?_; rintro e w2 ⟨rfl, rfl⟩)
       | (go_at_call 124; refine (iWin_is hla _).mono ?_; rintro e w2 ⟨rfl, rfl⟩)
       | (go_at_call 124; refine (iWin_is hog _).mono ?_; rintro e w2 ⟨rfl, rfl⟩)
       | (go_at_call 124; refine (iWin_is hfr _).mono ?_; rintro e w2 ⟨rfl, rfl⟩))
     go_ret
     exact ⟨rfl, rfl⟩
   go_enter Tryz.func140, Tryz.ntmps140
   go_wp2_with (first
     | (go_at_call 97; refine (iKind_is hk _).mono ?_; rintro e w2 ⟨rfl, rfl⟩)
     | (go_at_call 148; refine (iOpen_is hwn _).mono ?_; rintro e w2 ⟨rfl, rfl⟩)
     | (go_at_call 148; refine (iOpen_is hth _).mono ?_; rintro e w2 ⟨rfl, rfl⟩)
     | (go_at_call 168; refine (iTim_is hst _).mono ?_; rintro e w2 ⟨rfl, rfl⟩)
     | (go_at_call 124; refine (iWin_is hfl _).mono ?_; rintro e w2 ⟨rfl, rfl⟩)
     | (go_at_call 124; refine (iWin_is hac _).mono ?_; rintro e w2 ⟨rfl, rfl⟩)
     | (go_at_call 124; refine (iWin_is hla _).mono ?_; rintro e w2 ⟨rfl, rfl⟩)
     | (go_at_call 124; refine (iWin_is hog _).mono ?_; rintro e w2 ⟨rfl, rfl⟩)
     | (go_at_call 124; refine (iWin_is hfr _).mono ?_; rintro e w2 ⟨rfl, rfl⟩))
   go_ret
   exact ⟨rfl, rfl⟩
 exact key _ _ _ _ _ _ _ _ _ rfl rfl rfl rfl rfl rfl rfl rfl rfl
theorem implCcOk_is {k wn th fl ac la og st fr : Int} {f : Bool} (h : ccB k wn th fl ac la og st fr = f) (sl : Bool) (w : World) : Calls Tryz.prog 140 #[.agg #[.int .i64 k, .int .i64 wn, .int .i64 th, .int .i64 fl, .int .i64 ac, .int .i64 la, .int .i64 og, .int .i64 st, .int .i64 fr, .bool sl]] w fun e w' => e = .returned (.bool f) ∧ w' = w.alloc (.cells #[.int .i64 k, .int .i64 wn, .int .i64 th, .int .i64 fl, .int .i64 ac, .int .i64 la, .int .i64 og, .int .i64 st, .int .i64 fr, .bool sl] 62) := by
 subst h; exact implCcOk_any k wn th fl ac la og st fr sl w
def halfW (wn : Int) : Int := max 3000 (wn / 2)
theorem tdiv10 {x : Int} (h : 0 ≤ x) (m : Int) : x.tdiv m = x / m := Int.tdiv_eq_ediv_of_nonneg h
theorem max10_any (x y : Int) (w : World) : Calls Tryz.prog 115 #[.int .i64 x, .int .i64 y] w fun e w' => e = .returned (.int .i64 (max x y)) ∧ w' = w := by
 by_cases h : y < x
 · rw [Int.max_eq_left (by omega)]
   go_enter Tryz.func115, Tryz.ntmps115
   go_wp2
   go_ret
   exact ⟨rfl, rfl⟩
 · rw [Int.max_eq_right (by omega)]
   go_enter Tryz.func115, Tryz.ntmps115
   go_wp2
   go_ret
   exact ⟨rfl, rfl⟩
theorem min10_any (x y : Int) (w : World) : Calls Tryz.prog 117 #[.int .i64 x, .int .i64 y] w fun e w' => e = .returned (.int .i64 (min x y)) ∧ w' = w := by
 by_cases h : x < y
 · rw [Int.min_eq_left (by omega)]
   go_enter Tryz.func117, Tryz.ntmps117
   go_wp2
   go_ret
   exact ⟨rfl, rfl⟩
 · rw [Int.min_eq_right (by omega)]
   go_enter Tryz.func117, Tryz.ntmps117
   go_wp2
   go_ret
   exact ⟨rfl, rfl⟩
abbrev Q4 := Int × Int × Int × Int
def aggQ (x : Q4) : Value := .agg #[.int .i64 x.1, .int .i64 x.2.1, .int .i64 x.2.2.1, .int .i64 x.2.2.2]
/-- The fours xs lie at a, below block B. -/
def Quad (B : Nat) (w : World) (a : Option Addr) (xs : List Q4) : Prop :=
 ∀ i (h : i < xs.length), ∃ b off, a = some ⟨b, off, none⟩ ∧ b < B ∧ w.cell? ⟨b, off + i * 4, none⟩ = some (.int .i64 xs[i].1) ∧ w.cell? ⟨b, off + i * 4 + 1, none⟩ = some (.int .i64 xs[i].2.1) ∧ w.cell? ⟨b, off + i * 4 + 2, none⟩ = some (.int .i64 xs[i].2.2.1) ∧ w.cell? ⟨b, off + i * 4 + 3, none⟩ = some (.int .i64 xs[i].2.2.2)
theorem Quad.nil (B : Nat) (w : World) (a : Option Addr) : Quad B w a [] := fun i h => by cases h
theorem Quad.at {B : Nat} {w : World} {a : Option Addr} {xs : List Q4} (h : Quad B w a xs) {w' : World} (hb : Below B w w') (k : Nat) (hk : k < xs.length) :
   ∃ b off, a = some ⟨b, off, none⟩ ∧ b < B ∧ w'.cell? ⟨b, off + k * 4, none⟩ = some (.int .i64 xs[k].1) ∧ w'.cell? ⟨b, off + k * 4 + 1, none⟩ = some (.int .i64 xs[k].2.1) ∧ w'.cell? ⟨b, off + k * 4 + 2, none⟩ = some (.int .i64 xs[k].2.2.1) ∧ w'.cell? ⟨b, off + k * 4 + 3, none⟩ = some (.int .i64 xs[k].2.2.2) := by
 obtain ⟨b, off, e, hlt, c0, c1, c2, c3⟩ := h k hk
 exact ⟨b, off, e, hlt, (hb.cell (by exact hlt)).trans c0, (hb.cell (by exact hlt)).trans c1, (hb.cell (by exact hlt)).trans c2, (hb.cell (by exact hlt)).trans c3⟩
theorem Quad.mono {B : Nat} {w w' : World} {a : Option Addr} {xs : List Q4} (h : Quad B w a xs) (hb : Below B w w') : Quad B w' a xs := fun i hi => h.at hb i hi
theorem Quad.up {B B' : Nat} {w : World} {a : Option Addr} {xs : List Q4} (h : Quad B w a xs) (hb : B ≤ B') : Quad B' w a xs := fun i hi => by
 obtain ⟨b, off, e, hl, c⟩ := h i hi
 exact ⟨b, off, e, Nat.lt_of_lt_of_le hl hb, c⟩
theorem Quad.here {w x : World} {a : Option Addr} {xs : List Q4} (h : Quad w.heap.size w a xs) (hb : Below w.heap.size w x) : Quad x.heap.size x a xs := (h.mono hb).up hb.size
theorem Quad.cells {B b off : Nat} {w : World} {xs : List Q4} (h : Quad B w (some ⟨b, off, none⟩) xs) {w' : World} (hb : Below B w w') (k : Nat) (hk : k < xs.length) :
   w'.cell? ⟨b, off + k * 4, none⟩ = some (.int .i64 xs[k].1) ∧ w'.cell? ⟨b, off + k * 4 + 1, none⟩ = some (.int .i64 xs[k].2.1) ∧ w'.cell? ⟨b, off + k * 4 + 2, none⟩ = some (.int .i64 xs[k].2.2.1) ∧ w'.cell? ⟨b, off + k * 4 + 3, none⟩ = some (.int .i64 xs[k].2.2.2) := by
 obtain ⟨b', off', e, _, c⟩ := h.at hb k hk
 cases e
 exact c
/-- Block g has room for n fours; the first k are those of xs. -/
structure QFill (w : World) (g n : Nat) (xs : List Q4) (k : Nat) : Prop where
 any : ∀ j, j < n * 4 → (∃ z : Int, w.cell? ⟨g, j, none⟩ = some (.int .i64 z)) ∧ w.frozen? ⟨g, j, none⟩ = false
 got : ∀ i (h : i < xs.length), i < k → w.cell? ⟨g, i * 4, none⟩ = some (.int .i64 xs[i].1) ∧ w.cell? ⟨g, i * 4 + 1, none⟩ = some (.int .i64 xs[i].2.1) ∧ w.cell? ⟨g, i * 4 + 2, none⟩ = some (.int .i64 xs[i].2.2.1) ∧ w.cell? ⟨g, i * 4 + 3, none⟩ = some (.int .i64 xs[i].2.2.2)
theorem QFill.mono {w w' : World} {g n k : Nat} {xs : List Q4} (f : QFill w g n xs k) (h : Below w.heap.size w w') (hg : g < w.heap.size) : QFill w' g n xs k where
 any := fun j hj => by
   obtain ⟨⟨z, hz⟩, hf⟩ := f.any j hj
   exact ⟨⟨z, (h.cell (by exact hg)).trans hz⟩, (h.frozen (by exact hg)).trans hf⟩
 got := fun i hi hk => by
   obtain ⟨c0, c1, c2, c3⟩ := f.got i hi hk
   exact ⟨(h.cell (by exact hg)).trans c0, (h.cell (by exact hg)).trans c1, (h.cell (by exact hg)).trans c2, (h.cell (by exact hg)).trans c3⟩
theorem QFill.onlyO {w w' : World} {g n k : Nat} {xs : List Q4} {o : Option Nat} (f : QFill w g n xs k) (ho : OnlyO o w w') (hg : g < w.heap.size) (hn : o ≠ some g) : QFill w' g n xs k where
 any := fun j hj => ⟨by obtain ⟨z, hz⟩ := (f.any j hj).1; exact ⟨z, (ho.cell (by exact hg) (by exact hn)).trans hz⟩, (ho.frozen (by exact hg) (by exact hn)).trans (f.any j hj).2⟩
 got := fun i hi hk => by
   obtain ⟨c0, c1, c2, c3⟩ := f.got i hi hk
   exact ⟨(ho.cell (by exact hg) (by exact hn)).trans c0, (ho.cell (by exact hg) (by exact hn)).trans c1, (ho.cell (by exact hg) (by exact hn)).trans c2, (ho.cell (by exact hg) (by exact hn)).trans c3⟩
theorem QFill.far {w : World} {g n k : Nat} {xs : List Q4} (f : QFill w g n xs k) {p : Addr} (v : Value) (h : p.block ≠ g) : QFill (w.setCell p v) g n xs k where
 any := fun j hj => ⟨by obtain ⟨z, hz⟩ := (f.any j hj).1; exact ⟨z, (set_far (by exact h)).trans hz⟩, by simpa using (f.any j hj).2⟩
 got := fun i hi hk => by
   obtain ⟨c0, c1, c2, c3⟩ := f.got i hi hk
   exact ⟨(set_far (by exact h)).trans c0, (set_far (by exact h)).trans c1, (set_far (by exact h)).trans c2, (set_far (by exact h)).trans c3⟩
theorem QFill.again {w : World} {g n k : Nat} {xs : List Q4} (f : QFill w g n xs k) (ys : List Q4) : QFill w g n ys 0 := ⟨f.any, fun i hi hk => by omega⟩
theorem QFill.quad {w : World} {g n B : Nat} {xs : List Q4} (f : QFill w g n xs xs.length) (h : g < B) : Quad B w (some ⟨g, 0, none⟩) xs := fun i hi => by
 obtain ⟨c0, c1, c2, c3⟩ := f.got i hi hi
 exact ⟨g, 0, rfl, h, by rw [Nat.zero_add]; exact c0, by rw [Nat.zero_add]; exact c1, by rw [Nat.zero_add]; exact c2, by rw [Nat.zero_add]; exact c3⟩
/-- Four cells are stored over. -/
def putQ (w : World) (g o : Nat) (x : Q4) : World := (((w.setCell ⟨g, o, none⟩ (.int .i64 x.1)).setCell ⟨g, o + 1, none⟩ (.int .i64 x.2.1)).setCell ⟨g, o + 2, none⟩ (.int .i64 x.2.2.1)).setCell ⟨g, o + 3, none⟩ (.int .i64 x.2.2.2)
theorem putQ_other {w : World} {g o j : Nat} {x : Q4} (h : j < o ∨ o + 3 < j) : (putQ w g o x).cell? ⟨g, j, none⟩ = w.cell? ⟨g, j, none⟩ :=
 (set_other (by omega)).trans ((set_other (by omega)).trans ((set_other (by omega)).trans (set_other (by omega))))
theorem putQ_same {w : World} {g o : Nat} (x : Q4) {z0 z1 z2 z3 : Value} (h0 : w.cell? ⟨g, o, none⟩ = some z0) (h1 : w.cell? ⟨g, o + 1, none⟩ = some z1) (h2 : w.cell? ⟨g, o + 2, none⟩ = some z2) (h3 : w.cell? ⟨g, o + 3, none⟩ = some z3) :
   (putQ w g o x).cell? ⟨g, o, none⟩ = some (.int .i64 x.1) ∧ (putQ w g o x).cell? ⟨g, o + 1, none⟩ = some (.int .i64 x.2.1) ∧ (putQ w g o x).cell? ⟨g, o + 2, none⟩ = some (.int .i64 x.2.2.1) ∧ (putQ w g o x).cell? ⟨g, o + 3, none⟩ = some (.int .i64 x.2.2.2) :=
 ⟨(set_other (by omega)).trans ((set_other (by omega)).trans ((set_other (by omega)).trans (set_same _ h0))),
  (set_other (by omega)).trans ((set_other (by omega)).trans (set_same _ ((set_other (by omega)).trans h1))),
  (set_other (by omega)).trans (set_same _ ((set_other (by omega)).trans ((set_other (by omega)).trans h2))),
  set_same _ ((set_other (by omega)).trans ((set_other (by omega)).trans ((set_other (by omega)).trans h3)))⟩
theorem putQ_frozen {w : World} {g o : Nat} (x : Q4) (a : Addr) : (putQ w g o x).frozen? a = w.frozen? a := by unfold putQ; simp
theorem QFill.put {w : World} {g n k : Nat} {xs : List Q4} (f : QFill w g n xs k) (hk : k < xs.length) (hn : xs.length ≤ n) : QFill (putQ w g (k * 4) xs[k]) g n xs (k + 1) := by
 obtain ⟨z0, h0⟩ := (f.any (k * 4) (by omega)).1
 obtain ⟨z1, h1⟩ := (f.any (k * 4 + 1) (by omega)).1
 obtain ⟨z2, h2⟩ := (f.any (k * 4 + 2) (by omega)).1
 obtain ⟨z3, h3⟩ := (f.any (k * 4 + 3) (by omega)).1
 obtain ⟨s0, s1, s2, s3⟩ := putQ_same xs[k] h0 h1 h2 h3
 refine ⟨fun j hj => ⟨?_, (putQ_frozen _ _).trans (f.any j hj).2⟩, fun i hi hik => ?_⟩
 · by_cases e0 : j = k * 4
   · subst e0; exact ⟨_, s0⟩
   · by_cases e1 : j = k * 4 + 1
     · subst e1; exact ⟨_, s1⟩
     · by_cases e2 : j = k * 4 + 2
       · subst e2; exact ⟨_, s2⟩
       · by_cases e3 : j = k * 4 + 3
         · subst e3; exact ⟨_, s3⟩
         · obtain ⟨z, hz⟩ := (f.any j hj).1
           exact ⟨z, (putQ_other (by omega)).trans hz⟩
 · by_cases h : i = k
   · subst h
     exact ⟨s0, s1, s2, s3⟩
   · obtain ⟨c0, c1, c2, c3⟩ := f.got i hi (by omega)
     exact ⟨(putQ_other (by omega)).trans c0, (putQ_other (by omega)).trans c1, (putQ_other (by omega)).trans c2, (putQ_other (by omega)).trans c3⟩
theorem putQ_below {B : Nat} {w : World} {g o : Nat} {x : Q4} {w0 : World} (h : Below B w0 w) (hg : B ≤ g) : Below B w0 (putQ w g o x) := (((h.setCell (by exact hg) _).setCell (by exact hg) _).setCell (by exact hg) _).setCell (by exact hg) _
def marks4 (k : Int) (n : Nat) : List Q4 := (List.range n).map fun (i : Nat) => (k + 4 * (i : Int), k + 4 * (i : Int) + 1, k + 4 * (i : Int) + 2, k + 4 * (i : Int) + 3)
theorem marks4_length (k : Int) (n : Nat) : (marks4 k n).length = n := by simp [marks4]
theorem marks4_get (k : Int) (n i : Nat) (h : i < (marks4 k n).length) : (marks4 k n)[i] = (k + 4 * (i : Int), k + 4 * (i : Int) + 1, k + 4 * (i : Int) + 2, k + 4 * (i : Int) + 3) := by simp [marks4]
theorem made_quad (n j : Nat) (h : j < n * 4) : (madeCells (Value.agg #[.int .i64 0, .int .i64 0, .int .i64 0, .int .i64 0]).cells (n * 4)).toList[j]? = some (.int .i64 0) := by
 have hz : ∀ i : Nat, (#[Value.int .i64 0, Value.int .i64 0, Value.int .i64 0, Value.int .i64 0] : Array Value)[i % 4]! = .int .i64 0 := by
   intro i
   have : i % 4 = 0 ∨ i % 4 = 1 ∨ i % 4 = 2 ∨ i % 4 = 3 := by omega
   rcases this with e | e | e | e <;> rw [e] <;> rfl
 rw [Array.getElem?_toList]
 unfold madeCells
 rw [Array.getElem?_map, Array.getElem?_eq_getElem (by simpa using h)]
 show some _ = _
 rw [show ((Array.range (n * 4))[j]'(by simpa using h)) = j by simp]
 exact congrArg some (hz j)
/-! Rows of the call's own -/
def flatQ (xs : List Q4) : List Value := xs.flatMap fun x => [.int .i64 x.1, .int .i64 x.2.1, .int .i64 x.2.2.1, .int .i64 x.2.2.2]
theorem flatQ_length (xs : List Q4) : (flatQ xs).length = xs.length * 4 := by
 induction xs with
 | nil => rfl
 | cons x xs ih =>
   show (flatQ xs).length + 1 + 1 + 1 + 1 = _
   rw [ih, List.length_cons]
   omega
theorem flatQ_get (xs : List Q4) : ∀ i (h : i < xs.length), (flatQ xs)[i * 4]? = some (.int .i64 xs[i].1) ∧ (flatQ xs)[i * 4 + 1]? = some (.int .i64 xs[i].2.1) ∧ (flatQ xs)[i * 4 + 2]? = some (.int .i64 xs[i].2.2.1) ∧ (flatQ xs)[i * 4 + 3]? = some (.int .i64 xs[i].2.2.2) := by
 induction xs with
 | nil => intro i h; cases h
 | cons x xs ih =>
   intro i h
   cases i with
   | zero => exact ⟨rfl, rfl, rfl, rfl⟩
   | succ j =>
     have hj : j < xs.length := by simpa using h
     obtain ⟨h0, h1, h2, h3⟩ := ih j hj
     have e : ∀ d, (flatQ (x :: xs))[(j + 1) * 4 + d]? = (flatQ xs)[j * 4 + d]? := by
       intro d
       show (Value.int .i64 x.1 :: Value.int .i64 x.2.1 :: Value.int .i64 x.2.2.1 :: Value.int .i64 x.2.2.2 :: flatQ xs)[(j + 1) * 4 + d]? = _
       rw [show (j + 1) * 4 + d = j * 4 + d + 1 + 1 + 1 + 1 by omega]
       simp
     have e0 := e 0
     rw [Nat.add_zero, Nat.add_zero] at e0
     rw [e0, e 1, e 2, e 3]
     exact ⟨h0, h1, h2, h3⟩
theorem flatQ_mem {xs : List Q4} {u : Value} (h : u ∈ flatQ xs) : ∃ z, u = .int .i64 z := by
 obtain ⟨x, _, hx⟩ := List.mem_flatMap.1 h
 simp only [List.mem_cons, List.not_mem_nil, or_false] at hx
 rcases hx with rfl | rfl | rfl | rfl
 · exact ⟨_, rfl⟩
 · exact ⟨_, rfl⟩
 · exact ⟨_, rfl⟩
 · exact ⟨_, rfl⟩
theorem flatQ_cell (xs : List Q4) : ∀ u ∈ flatQ xs, u.oneCell' = true := fun u hu => by obtain ⟨z, rfl⟩ := flatQ_mem hu; rfl
theorem own_quads {w : World} {base : Nat} {v : Value} {t : TypeId} {xs : List Q4} (h : w.ownsRow base t 4 v xs.length (flatQ xs)) (hn : v ≠ .slice none 0 0) :
   ∃ g cap, v = .slice (some ⟨g, 0, none⟩) xs.length cap ∧ base ≤ g ∧ g < w.heap.size ∧ QFill w g xs.length xs xs.length ∧ xs.length ≤ cap := by
 rcases h.2 with ⟨e, _⟩ | ⟨g, cap, cur, rfl, hb, hg, hnc, _⟩
 · exact absurd e hn
 · refine ⟨g, cap, rfl, hb, (h.lt g rfl).2, ⟨fun j hj => ⟨?_, h.frozenAt j⟩, fun i hi _ => ?_⟩, hnc⟩
   · have hc := h.cellAt j hj
     obtain ⟨u, hu⟩ : ∃ u, (flatQ xs)[j]? = some u := ⟨_, List.getElem?_eq_getElem (by rw [flatQ_length]; exact hj)⟩
     obtain ⟨z, rfl⟩ := flatQ_mem (List.mem_of_getElem? hu)
     exact ⟨z, hc.trans hu⟩
   · obtain ⟨h0, h1, h2, h3⟩ := flatQ_get xs i hi
     exact ⟨(h.cellAt _ (by omega)).trans h0, (h.cellAt _ (by omega)).trans h1, (h.cellAt _ (by omega)).trans h2, (h.cellAt _ (by omega)).trans h3⟩
/-! A slice of fours that came in as an argument -/
section
variable {H : Type} {enc : TypeId × Value → H} {P : Program} {w : World} {sp : Nat → Bool} {held : Bool}
theorem open_quads {t e i : TypeId} {f0 f1 f2 f3 : Field} (ht : P.underlying t = some (.slice e)) (he : P.underlying e = some (.struct #[f0, f1, f2, f3])) (hi : P.underlying i = some (.int .i64)) (t0 : f0.type = i) (t1 : f1.type = i) (t2 : f2.type = i) (t3 : f3.type = i)
   (o0 : f0.offset = 0) (o1 : f1.offset = 1) (o2 : f2.offset = 2) (o3 : f3.offset = 3) (ci : P.cellsOf i = 1) (ce : P.cellsOf e = 4) {fuel : Nat} {v : Value} {x : DataW H × List MemPlace}
   (h : DataW.trod enc P w 0 sp held fuel t [v] = some x) :
   ∃ (a : Option Addr) (cap : Nat) (xs : List Q4), v = .slice a xs.length cap ∧ Quad w.heap.size w a xs ∧ (∀ x ∈ xs, I64 x.1 ∧ I64 x.2.1 ∧ I64 x.2.2.1 ∧ I64 x.2.2.2) ∧ (a = none → xs = [] ∧ cap = 0) ∧ xs.length ≤ cap ∧ cap ≤ maxLen := by
 rcases DataW.trod_slice ht h with ⟨e1, _⟩ | ⟨a, len, cap, elems, rest, n, _, e1, _, _, hl, hm, hlen, hel, _, _⟩
 · obtain rfl : v = .slice none 0 0 := by simpa using e1
   exact ⟨none, 0, [], rfl, (fun i h => by cases h), (fun x h => by cases h), (fun _ => ⟨rfl, rfl⟩), Nat.le_refl _, (by unfold maxLen; omega)⟩
 · obtain rfl : v = .slice (some a) len cap := by simpa using e1
   have one : ∀ i, i < len → ∃ p q r s, w.cell? (a.add (i * 4)) = some (.int .i64 p) ∧ w.cell? ((a.add (i * 4)).add 1) = some (.int .i64 q) ∧ w.cell? ((a.add (i * 4)).add 2) = some (.int .i64 r) ∧ w.cell? ((a.add (i * 4)).add 3) = some (.int .i64 s) ∧ I64 p ∧ I64 q ∧ I64 r ∧ I64 s := by
     intro j hj
     obtain ⟨y, hy⟩ : ∃ y, elems[j]? = some y := ⟨_, List.getElem?_eq_getElem (by omega)⟩
     have hb := hel j hj
     rw [hy, ce, Option.bind_eq_some_iff] at hb
     obtain ⟨cs, hc, htr⟩ := hb
     obtain ⟨p, q, r, s, rfl, ip, iq, ir, is⟩ := open_ints4 he hi t0 t1 t2 t3 o0 o1 o2 o3 ci ce htr
     obtain ⟨_, _, hcell⟩ := World.cells?_some hc
     exact ⟨p, q, r, s, by simpa [Addr.add] using hcell 0 (by omega), by simpa using hcell 1 (by omega), by simpa using hcell 2 (by omega), by simpa using hcell 3 (by omega), ip, iq, ir, is⟩
   refine ⟨some a, cap, (List.range len).map fun i => (intVal (w.cell? (a.add (i * 4))), intVal (w.cell? ((a.add (i * 4)).add 1)), intVal (w.cell? ((a.add (i * 4)).add 2)), intVal (w.cell? ((a.add (i * 4)).add 3))), by simp, ?_, ?_, (fun h => by cases h), (by simpa using hl), hm⟩
   · intro i hi
     have hi' : i < len := by simpa using hi
     obtain ⟨p, q, r, s, cp, cq, cr, cs, _⟩ := one i hi'
     have hspot : a.spot = none := by
       obtain ⟨_, _, _, _, c0', _⟩ := one 0 (by omega)
       simpa [Addr.add] using World.cell?_spot c0'
     obtain ⟨b, off, spot⟩ := a
     simp only at hspot
     subst hspot
     have e2 : ((⟨b, off, none⟩ : Addr).add (i * 4)) = ⟨b, off + i * 4, none⟩ := by unfold Addr.add; split <;> simp_all
     have e3 : ((⟨b, off + i * 4, none⟩ : Addr).add 1) = ⟨b, off + i * 4 + 1, none⟩ := by simp [Addr.add]
     have e4 : ((⟨b, off + i * 4, none⟩ : Addr).add 2) = ⟨b, off + i * 4 + 2, none⟩ := by simp [Addr.add]
     have e5 : ((⟨b, off + i * 4, none⟩ : Addr).add 3) = ⟨b, off + i * 4 + 3, none⟩ := by simp [Addr.add]
     rw [e2] at cp cq cr cs
     rw [e3] at cq
     rw [e4] at cr
     rw [e5] at cs
     refine ⟨b, off, rfl, World.block_lt_of_cell? w _ cp, ?_, ?_, ?_, ?_⟩
     · simp only [List.getElem_map, List.getElem_range, e2, cp, intVal]
     · simp only [List.getElem_map, List.getElem_range, e2, e3, cq, intVal]
     · simp only [List.getElem_map, List.getElem_range, e2, e4, cr, intVal]
     · simp only [List.getElem_map, List.getElem_range, e2, e5, cs, intVal]
   · intro x hx
     obtain ⟨i, hi, rfl⟩ := List.mem_map.1 hx
     obtain ⟨p, q, r, s, cp, cq, cr, cs, ip, iq, ir, is⟩ := one i (List.mem_range.1 hi)
     simp only [cp, cq, cr, cs, intVal]
     exact ⟨ip, iq, ir, is⟩
end
theorem retQ {f g : Bool} (h : f = g) : Ending.returned (.bool f) = .returned (.bool g) := by rw [h]
/-- v is a list: the items xs in a block of their own from lo on, or none and no room. -/
def QV (w : World) (lo : Nat) (v : Value) (xs : List Q4) : Prop :=
 (∃ g cap, v = .slice (some ⟨g, 0, none⟩) xs.length cap ∧ lo ≤ g ∧ g < w.heap.size ∧ QFill w g xs.length xs xs.length ∧ xs.length ≤ cap) ∨ ((∃ a, v = .slice a 0 0) ∧ xs = [])
theorem QV.zero (w : World) (lo : Nat) (a : Option Addr) : QV w lo (.slice a 0 0) [] := .inr ⟨⟨a, rfl⟩, rfl⟩
theorem QV.room {w : World} {lo : Nat} {v : Value} {xs : List Q4} (h : QV w lo v xs) :
   (∃ g cap, v = .slice (some ⟨g, 0, none⟩) xs.length (cap + 1) ∧ lo ≤ g ∧ g < w.heap.size ∧ QFill w g xs.length xs xs.length ∧ xs.length ≤ cap + 1) ∨ ((∃ a, v = .slice a 0 0) ∧ xs = []) := by
 rcases h with ⟨g, cap, e, h1, h2, f, hc⟩ | h
 · cases cap with
   | zero =>
     have hy : xs = [] := List.eq_nil_of_length_eq_zero (by omega)
     subst hy
     exact .inr ⟨⟨_, e⟩, rfl⟩
   | succ cap => exact .inl ⟨g, cap, e, h1, h2, f, hc⟩
 · exact .inr h
theorem QV.own {w : World} {lo : Nat} {v : Value} {xs : List Q4} (h : QV w lo v xs) {g : Nat} (hg : roomB v = some g) : lo ≤ g ∧ g < w.heap.size := by
 rcases h.room with ⟨g', cap, rfl, h1, h2, _⟩ | ⟨⟨a, rfl⟩, _⟩
 · injection hg with hg
   have e : g' = g := hg
   subst e
   exact ⟨h1, h2⟩
 · rw [room_zero] at hg
   cases hg
theorem QV.next {w w' : World} {lo : Nat} {v : Value} {xs : List Q4} (h : QV w lo v xs) (hb : Below w.heap.size w w') : QV w' lo v xs := by
 rcases h with ⟨g, cap, rfl, h1, h2, f, hc⟩ | h
 · exact .inl ⟨g, cap, rfl, h1, Nat.lt_of_lt_of_le h2 hb.size, f.mono hb h2, hc⟩
 · exact .inr h
theorem QV.onlyO {w w' : World} {lo : Nat} {o : Option Nat} {v : Value} {xs : List Q4} (h : QV w lo v xs) (hb : OnlyO o w w') (hv : ∀ g, roomB v = some g → o ≠ some g) : QV w' lo v xs := by
 rcases h.room with ⟨g, cap, rfl, h1, h2, f, hc⟩ | h
 · exact .inl ⟨g, _, rfl, h1, Nat.lt_of_lt_of_le h2 hb.size, f.onlyO hb h2 (hv g rfl), hc⟩
 · exact .inr h
theorem QV.lower {w : World} {lo lo' : Nat} {v : Value} {xs : List Q4} (h : QV w lo v xs) (hl : lo' ≤ lo) : QV w lo' v xs := by
 rcases h with ⟨g, cap, rfl, h1, h2, f, hc⟩ | h
 · exact .inl ⟨g, cap, rfl, Nat.le_trans hl h1, h2, f, hc⟩
 · exact .inr h
theorem QV.quad {w : World} {lo n c : Nat} {a : Option Addr} {xs : List Q4} (h : QV w lo (.slice a n c) xs) : n = xs.length ∧ Quad w.heap.size w a xs := by
 rcases h with ⟨g, cap, e, h1, h2, f, hc⟩ | ⟨⟨a', e⟩, rfl⟩
 · injection e with e1 e2 e3
   subst e1 e2
   exact ⟨rfl, f.quad h2⟩
 · injection e with e1 e2 e3
   exact ⟨e2, Quad.nil _ _ _⟩
theorem QV.slice {w : World} {lo : Nat} {v : Value} {xs : List Q4} (h : QV w lo v xs) : ∃ a c, v = .slice a xs.length c := by
 rcases h with ⟨g, cap, rfl, _⟩ | ⟨⟨a, rfl⟩, rfl⟩
 · exact ⟨_, _, rfl⟩
 · exact ⟨a, 0, rfl⟩
theorem own_qv {w : World} {base : Nat} {v : Value} {t : TypeId} {xs : List Q4} (h : w.ownsRow base t 4 v xs.length (flatQ xs)) : QV w base v xs := by
 by_cases hn : v = .slice none 0 0
 · rcases h.2 with ⟨_, e2⟩ | ⟨g, cap, cur, e, _⟩
   · exact .inr ⟨⟨none, hn⟩, List.eq_nil_of_length_eq_zero e2⟩
   · rw [e] at hn
     injection hn with hn
     cases hn
 · obtain ⟨g, cap, rfl, h1, h2, f, hc⟩ := own_quads h hn
   exact .inl ⟨g, cap, rfl, h1, h2, f, hc⟩
/-- Three lists in blocks of their own, each its own. -/
structure LV (w : World) (lo : Nat) (sT sO sP : Value) (T O P : List Q4) : Prop where
 t : QV w lo sT T
 o : QV w lo sO O
 p : QV w lo sP P
 to : ∀ g, roomB sT = some g → roomB sO ≠ some g
 tp : ∀ g, roomB sT = some g → roomB sP ≠ some g
 op : ∀ g, roomB sO = some g → roomB sP ≠ some g
theorem LV.next {w w' : World} {lo : Nat} {sT sO sP : Value} {T O P : List Q4} (h : LV w lo sT sO sP T O P) (hb : Below w.heap.size w w') : LV w' lo sT sO sP T O P := ⟨h.t.next hb, h.o.next hb, h.p.next hb, h.to, h.tp, h.op⟩
theorem LV.lower {w : World} {lo lo' : Nat} {sT sO sP : Value} {T O P : List Q4} (h : LV w lo sT sO sP T O P) (hl : lo' ≤ lo) : LV w lo' sT sO sP T O P := ⟨h.t.lower hl, h.o.lower hl, h.p.lower hl, h.to, h.tp, h.op⟩
theorem LV.zero (w : World) (lo : Nat) : LV w lo (.slice none 0 0) (.slice none 0 0) (.slice none 0 0) [] [] [] := ⟨QV.zero _ _ _, QV.zero _ _ _, QV.zero _ _ _, fun g h => (by cases h), fun g h => (by cases h), fun g h => (by cases h)⟩
def fillL (r u l t now : Int) : Int := if now ≤ t then l else min (1000000000 * u) (l + r * (now - t))
def fillT (t now : Int) : Int := if now ≤ t then t else now
/-- A Cc. -/
structure C10 where
 k : Int
 wn : Int
 th : Int
 fl : Int
 ac : Int
 la : Int
 og : Int
 st : Int
 fr : Int
 sl : Bool
def zeroC : C10 := ⟨0, 0, 0, 0, 0, 0, 0, 0, 0, false⟩
def lossC (k wn th fl ac la og st fr : Int) (sl : Bool) : C10 := if ccB k wn th fl ac la og st fr = true then ⟨k, halfW wn, halfW wn, fl, 0, la, og, st, fr, false⟩ else zeroC
def tenW (wn : Int) : Int := max 3000 (7 * wn / 10)
def lastW (wn la : Int) : Int := if wn < la then 17 * wn / 20 else wn
def cubTimeOf (la og : Int) : Int := if w10B la = true ∧ w10B og = true then cubT la og else -1
def ms10B (x : Int) : Bool := decide (0 ≤ x) && decide (x ≤ 1000000)
def cubAtOf (la og ms : Int) : Int := if (w10B la = true ∧ w10B og = true) ∧ ms10B ms = true then cubAt la og ms else -1
theorem win_num_SpecCubic {x : Int} (h : w10B x = true) : 0 ≤ x ∧ x ≤ 1000000000 := by
 unfold w10B at h
 simp only [Bool.and_eq_true, decide_eq_true_eq] at h
 exact h
theorem specCubicTime_any (la og : Int) (w : World) : Calls Tryz.prog 155 #[.int .i64 la, .int .i64 og] w fun e w' => e = .returned (.int .i64 (cubTimeOf la og)) ∧ w' = w := by
 cases h1 : w10B la
 · rw [show cubTimeOf la og = -1 from if_neg (by rw [h1]; simp)]
   go_enter Tryz.func155, Tryz.ntmps155
   go_wp2_with (first | (go_at_call 123; refine (sWin_is h1 _).mono ?_; rintro e w2 ⟨rfl, rfl⟩))
   go_ret
   exact ⟨rfl, rfl⟩
 cases h2 : w10B og
 · rw [show cubTimeOf la og = -1 from if_neg (by rw [h2]; simp)]
   go_enter Tryz.func155, Tryz.ntmps155
   go_wp2_with (first | (go_at_call 123; refine (sWin_is h1 _).mono ?_; rintro e w2 ⟨rfl, rfl⟩) | (go_at_call 123; refine (sWin_is h2 _).mono ?_; rintro e w2 ⟨rfl, rfl⟩))
   go_ret
   exact ⟨rfl, rfl⟩
 rw [show cubTimeOf la og = cubT la og from if_pos ⟨h1, h2⟩]
 obtain ⟨l0, l1⟩ := win_num_SpecCubic h1
 obtain ⟨o0, o1⟩ := win_num_SpecCubic h2
 by_cases h3 : la ≤ og
 · rw [show cubT la og = 0 from if_pos h3]
   go_enter Tryz.func155, Tryz.ntmps155
   go_wp2_with (first | (go_at_call 123; refine (sWin_is h1 _).mono ?_; rintro e w2 ⟨rfl, rfl⟩) | (go_at_call 123; refine (sWin_is h2 _).mono ?_; rintro e w2 ⟨rfl, rfl⟩))
   go_ret
   exact ⟨rfl, rfl⟩
 · rw [show cubT la og = rootZ ((la - og) * 2500000000 / 1500) from if_neg h3]
   have r1 : IntKind.i64.wrap (la - og) = la - og := by rw [IntKind.wrap_i64]; omega
   have r2 : IntKind.i64.wrap ((la - og) * 2500000000) = (la - og) * 2500000000 := by rw [IntKind.wrap_i64]; omega
   have ed := tdiv10 (x := (la - og) * 2500000000) (by omega) 1500
   have hn : (la - og) * 2500000000 / 1500 ≤ 9223372036854775807 := by omega
   have r3 : IntKind.i64.wrap ((la - og) * 2500000000 / 1500) = (la - og) * 2500000000 / 1500 := by rw [IntKind.wrap_i64]; omega
   have hr := fun w => specRoot_any _ _ w hn (rootZ_is hn)
   obtain ⟨r, hr'⟩ : ∃ r, rootZ ((la - og) * 2500000000 / 1500) = r := ⟨_, rfl⟩
   rw [hr'] at hr ⊢
   clear hr'
   have HR : Hid (∀ w : World, Calls Tryz.prog 177 #[.int .i64 ((la - og) * 2500000000 / 1500)] w fun e w' => e = .returned (.int .i64 r) ∧ w' = w) := hr
   clear hr
   go_enter Tryz.func155, Tryz.ntmps155
   go_wp2_with (first | (go_at_call 123; refine (sWin_is h1 _).mono ?_; rintro e w2 ⟨rfl, rfl⟩) | (go_at_call 123; refine (sWin_is h2 _).mono ?_; rintro e w2 ⟨rfl, rfl⟩) | (go_at_call 177; (try rw [ed]); refine (HR.out _).mono ?_; rintro e w2 ⟨rfl, rfl⟩))
   go_ret
   exact ⟨rfl, rfl⟩
theorem abs10_up {x : Int} (h : 0 ≤ x) (w : World) : Calls Tryz.prog 156 #[.int .i64 x] w fun e w' => e = .returned (.int .i64 x) ∧ w' = w := by
 have h' : ¬ x < 0 := by omega
 go_enter Tryz.func156, Tryz.ntmps156
 go_wp2
 go_ret
 exact ⟨rfl, rfl⟩
theorem abs10_down {x n : Int} (h : x = -n) (h0 : 0 < n) (h1 : n ≤ 1000000) (w : World) : Calls Tryz.prog 156 #[.int .i64 x] w fun e w' => e = .returned (.int .i64 n) ∧ w' = w := by
 have h' : x < 0 := by omega
 have e0 : IntKind.i64.wrap (-x) = n := by rw [IntKind.wrap_i64]; omega
 go_enter Tryz.func156, Tryz.ntmps156
 go_wp2
 go_ret
 exact ⟨rfl, rfl⟩
theorem md10 {N : Int} (h0 : 0 ≤ N) (h1 : N ≤ 1000000000000000000) (w : World) : Calls Tryz.prog 157 #[.int .i64 N, .int .i64 6000, .int .i64 10000000000] w fun e w' => e = .returned (.tuple #[.int .i64 (N * 6000 / 10000000000), .bool true]) ∧ w' = w := by
 have hk : mdOk N 6000 10000000000 = true := by unfold mdOk; exact decide_eq_true (by omega)
 have hq : mdQ N 6000 10000000000 = N * 6000 / 10000000000 := by unfold mdQ; rw [hk]; rfl
 have := specMulDiv_any N 6000 10000000000 w (by omega) (by omega) (by omega)
 rwa [hk, hq] at this
theorem specCubicAt_no1 (la og ms : Int) (w : World) (h : cubTimeOf la og = -1) : Calls Tryz.prog 118 #[.int .i64 la, .int .i64 og, .int .i64 ms] w fun e w' => e = .returned (.int .i64 (-1)) ∧ w' = w := by
 have hT := specCubicTime_any la og
 rw [h] at hT
 go_enter Tryz.func118, Tryz.ntmps118
 go_wp2_with (first | (go_at_call 155; refine (hT _).mono ?_; rintro e w2 ⟨rfl, rfl⟩))
 go_ret
 exact ⟨rfl, rfl⟩
theorem ms_is {x : Int} {f : Bool} (h : ms10B x = f) (w : World) : Calls Tryz.prog 25 #[.int .i64 x, .int .i64 0, .int .i64 1000000] w fun e w' => e = .returned (.bool f) ∧ w' = w := by subst h; exact in_any 0 x 1000000 w
theorem specCubicAt_no2 (la og ms : Int) (w : World) {k : Int} (hk : cubTimeOf la og = k) (h0 : 0 ≤ k) (h : ms10B ms = false) : Calls Tryz.prog 118 #[.int .i64 la, .int .i64 og, .int .i64 ms] w fun e w' => e = .returned (.int .i64 (-1)) ∧ w' = w := by
 have hT := specCubicTime_any la og
 rw [hk] at hT
 clear hk
 have h0' : ¬ k < 0 := by omega
 go_enter Tryz.func118, Tryz.ntmps118
 go_wp2_with (first | (go_at_call 155; refine (hT _).mono ?_; rintro e w2 ⟨rfl, rfl⟩) | (go_at_call 25; refine (ms_is h _).mono ?_; rintro e w2 ⟨rfl, rfl⟩))
 go_ret
 exact ⟨rfl, rfl⟩
set_option maxHeartbeats 1000000 in
theorem specCubicAt_up (la og ms : Int) (w : World) {k : Int} (hk : cubTimeOf la og = k) (h0 : 0 ≤ k) (hm : ms10B ms = true) (hd : k ≤ ms) (l0 : 0 ≤ la) (l1 : la ≤ 1000000000) :
   Calls Tryz.prog 118 #[.int .i64 la, .int .i64 og, .int .i64 ms] w fun e w' => e = .returned (.int .i64 (min 1000000000 (max 0 (la + cubD (ms - k))))) ∧ w' = w := by
 have hT := specCubicTime_any la og
 rw [hk] at hT
 clear hk
 have h0' : ¬ k < 0 := by omega
 have hm' := hm
 unfold ms10B at hm'
 simp only [Bool.and_eq_true, decide_eq_true_eq] at hm'
 obtain ⟨m0, m1⟩ := hm'
 have r1 : IntKind.i64.wrap (ms - k) = ms - k := by rw [IntKind.wrap_i64]; omega
 obtain ⟨n, hn⟩ : ∃ n, ms - k = n := ⟨_, rfl⟩
 have n0 : 0 ≤ n := by omega
 have n1 : n ≤ 1000000 := by omega
 rw [hn] at r1 ⊢
 have hn' : ¬ n < 0 := by omega
 obtain ⟨⟨a0, a1⟩, b0, b1⟩ := cub_bd n0 n1
 have s2 : IntKind.i64.wrap (n * n) = n * n := by rw [IntKind.wrap_i64]; omega
 have s3 : IntKind.i64.wrap (n * n * n) = n * n * n := by rw [IntKind.wrap_i64]; omega
 have hM := fun w => md10 b0 b1 w
 have hX : cubD n = n * n * n * 6000 / 10000000000 := rfl
 obtain ⟨X, hx⟩ : ∃ X, n * n * n * 6000 / 10000000000 = X := ⟨_, rfl⟩
 have X0 : 0 ≤ X := by omega
 have X1 : X ≤ 1000000000000 := by omega
 rw [hx] at hM hX
 rw [hX]
 clear hX hx
 have s4 : IntKind.i64.wrap (la + X) = la + X := by rw [IntKind.wrap_i64]; omega
 go_enter Tryz.func118, Tryz.ntmps118
 go_wp2_with (first | (go_at_call 155; refine (hT _).mono ?_; rintro e w2 ⟨rfl, rfl⟩) | (go_at_call 25; refine (ms_is hm _).mono ?_; rintro e w2 ⟨rfl, rfl⟩) | (go_at_call 156; (try rw [hn]); refine (abs10_up n0 _).mono ?_; rintro e w2 ⟨rfl, rfl⟩) | (go_at_call 157; refine (hM _).mono ?_; rintro e w2 ⟨rfl, rfl⟩) | (go_at_call 115; refine (max10_any _ _ _).mono ?_; rintro e w2 ⟨rfl, rfl⟩) | (go_at_call 117; refine (min10_any _ _ _).mono ?_; rintro e w2 ⟨rfl, rfl⟩))
 go_ret
 exact ⟨rfl, rfl⟩
set_option maxHeartbeats 1000000 in
theorem specCubicAt_down (la og ms : Int) (w : World) {k : Int} (hk : cubTimeOf la og = k) (h0 : 0 ≤ k) (k1 : k ≤ 1000000) (hm : ms10B ms = true) (hd : ms < k) (l0 : 0 ≤ la) (l1 : la ≤ 1000000000) :
   Calls Tryz.prog 118 #[.int .i64 la, .int .i64 og, .int .i64 ms] w fun e w' => e = .returned (.int .i64 (min 1000000000 (max 0 (la + cubD (ms - k))))) ∧ w' = w := by
 have hT := specCubicTime_any la og
 rw [hk] at hT
 clear hk
 have h0' : ¬ k < 0 := by omega
 have hm' := hm
 unfold ms10B at hm'
 simp only [Bool.and_eq_true, decide_eq_true_eq] at hm'
 obtain ⟨m0, m1⟩ := hm'
 obtain ⟨n, hn⟩ : ∃ n, k - ms = n := ⟨_, rfl⟩
 have n0 : 0 < n := by omega
 have n1 : n ≤ 1000000 := by omega
 have hd' : ms - k = -n := by omega
 have r1 : IntKind.i64.wrap (ms - k) = ms - k := by rw [IntKind.wrap_i64]; omega
 have hneg : ms - k < 0 := by omega
 obtain ⟨⟨a0, a1⟩, b0, b1⟩ := cub_bd (show 0 ≤ n by omega) n1
 have s2 : IntKind.i64.wrap (n * n) = n * n := by rw [IntKind.wrap_i64]; omega
 have s3 : IntKind.i64.wrap (n * n * n) = n * n * n := by rw [IntKind.wrap_i64]; omega
 have hM := fun w => md10 b0 b1 w
 obtain ⟨y, hy⟩ : ∃ y, y = n * n * n % 10000000000 * 4 * 1500 % 10000000000 := ⟨_, rfl⟩
 have hX := cubD_down hy
 rw [← hd'] at hX
 rw [hX]
 clear hX
 have t1 : (n * n * n).tmod 10000000000 = n * n * n % 10000000000 := Int.tmod_eq_emod_of_nonneg b0
 obtain ⟨r, hr⟩ : ∃ r, n * n * n % 10000000000 = r := ⟨_, rfl⟩
 have q0 : 0 ≤ r := by omega
 have q1 : r < 10000000000 := by omega
 obtain ⟨X, hx⟩ : ∃ X, n * n * n * 6000 / 10000000000 = X := ⟨_, rfl⟩
 have X0 : 0 ≤ X := by omega
 have X1 : X ≤ 1000000000000 := by omega
 rw [hr] at t1 hy
 rw [hx] at hM ⊢
 clear hr hx
 have s4 : IntKind.i64.wrap (r * 4) = r * 4 := by rw [IntKind.wrap_i64]; omega
 have s5 : IntKind.i64.wrap (r * 4 * 1500) = r * 4 * 1500 := by rw [IntKind.wrap_i64]; omega
 have t2 : (r * 4 * 1500).tmod 10000000000 = r * 4 * 1500 % 10000000000 := Int.tmod_eq_emod_of_nonneg (by omega)
 rw [← hy] at t2
 by_cases hy0 : y = 0
 · rw [if_pos hy0]
   subst hy0
   have s6 : IntKind.i64.wrap (-X) = -X := by rw [IntKind.wrap_i64]; omega
   have s7 : IntKind.i64.wrap (la + -X) = la + -X := by rw [IntKind.wrap_i64]; omega
   clear hy
   go_enter Tryz.func118, Tryz.ntmps118
   go_wp2_with (first | (go_at_call 155; refine (hT _).mono ?_; rintro e w2 ⟨rfl, rfl⟩) | (go_at_call 25; refine (ms_is hm _).mono ?_; rintro e w2 ⟨rfl, rfl⟩) | (go_at_call 156; refine (abs10_down hd' n0 n1 _).mono ?_; rintro e w2 ⟨rfl, rfl⟩) | (go_at_call 156; refine (abs10_down (x := -n) rfl n0 n1 _).mono ?_; rintro e w2 ⟨rfl, rfl⟩) | (go_at_call 157; refine (hM _).mono ?_; rintro e w2 ⟨rfl, rfl⟩) | (go_at_call 115; refine (max10_any _ _ _).mono ?_; rintro e w2 ⟨rfl, rfl⟩) | (go_at_call 117; refine (min10_any _ _ _).mono ?_; rintro e w2 ⟨rfl, rfl⟩))
   go_ret
   exact ⟨rfl, rfl⟩
 · rw [if_neg hy0]
   have s6 : IntKind.i64.wrap (X + 1) = X + 1 := by rw [IntKind.wrap_i64]; omega
   have s7 : IntKind.i64.wrap (-(X + 1)) = -(X + 1) := by rw [IntKind.wrap_i64]; omega
   have s8 : IntKind.i64.wrap (la + -(X + 1)) = la + -(X + 1) := by rw [IntKind.wrap_i64]; omega
   clear hy
   go_enter Tryz.func118, Tryz.ntmps118
   go_wp2_with (first | (go_at_call 155; refine (hT _).mono ?_; rintro e w2 ⟨rfl, rfl⟩) | (go_at_call 25; refine (ms_is hm _).mono ?_; rintro e w2 ⟨rfl, rfl⟩) | (go_at_call 156; refine (abs10_down hd' n0 n1 _).mono ?_; rintro e w2 ⟨rfl, rfl⟩) | (go_at_call 156; refine (abs10_down (x := -n) rfl n0 n1 _).mono ?_; rintro e w2 ⟨rfl, rfl⟩) | (go_at_call 157; refine (hM _).mono ?_; rintro e w2 ⟨rfl, rfl⟩) | (go_at_call 115; refine (max10_any _ _ _).mono ?_; rintro e w2 ⟨rfl, rfl⟩) | (go_at_call 117; refine (min10_any _ _ _).mono ?_; rintro e w2 ⟨rfl, rfl⟩))
   go_ret
   exact ⟨rfl, rfl⟩
theorem specCubicAt_any (la og ms : Int) (w : World) : Calls Tryz.prog 118 #[.int .i64 la, .int .i64 og, .int .i64 ms] w fun e w' => e = .returned (.int .i64 (cubAtOf la og ms)) ∧ w' = w := by
 by_cases h12 : w10B la = true ∧ w10B og = true
 · have hk : cubTimeOf la og = cubT la og := if_pos h12
   obtain ⟨l0, l1⟩ := win_num_SpecCubic h12.1
   obtain ⟨o0, o1⟩ := win_num_SpecCubic h12.2
   obtain ⟨k0, k1⟩ := cubT_bd o0 l1
   cases hm : ms10B ms
   · rw [show cubAtOf la og ms = -1 from if_neg (fun h => by rw [hm] at h; cases h.2)]
     exact specCubicAt_no2 la og ms w hk k0 hm
   · rw [show cubAtOf la og ms = cubAt la og ms from if_pos ⟨h12, hm⟩]
     unfold cubAt
     rcases Int.lt_or_le ms (cubT la og) with hd | hd
     · exact specCubicAt_down la og ms w hk k0 k1 hm hd l0 l1
     · exact specCubicAt_up la og ms w hk k0 hm hd l0 l1
 · rw [show cubAtOf la og ms = -1 from if_neg (fun h => h12 h.1)]
   exact specCubicAt_no1 la og ms w (if_neg h12)
end Go.Proofs.YtkohlmloobojfaaGreat

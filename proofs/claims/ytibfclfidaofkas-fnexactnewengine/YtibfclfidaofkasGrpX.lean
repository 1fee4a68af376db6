/- Lemmas on the way, of several texts: Cc, CcOk, NewCc, Loss. -/
import Derived.Test.YtibfclfidaofkasGrpF
import Derived.Test.YtibfclfidaofkasGrpC
import Derived.Handy
namespace Go.Proofs.Ytibfclfidaofkas
open Go.ChangeShapes Go.WideShapes Go.ChangeAt Go.RowKit
set_option maxRecDepth 100000
set_option linter.unusedVariables false

theorem list10 {α : Type} {cs : List α} (h : cs.length = 10) : ∃ c0 c1 c2 c3 c4 c5 c6 c7 c8 c9, cs = [c0, c1, c2, c3, c4, c5, c6, c7, c8, c9] := by
  match cs, h with
  | [c0, c1, c2, c3, c4, c5, c6, c7, c8, c9], _ => exact ⟨c0, c1, c2, c3, c4, c5, c6, c7, c8, c9, rfl⟩
section
variable {H : Type} {enc : TypeId × Value → H} {P : Program} {w : World} {sp : Nat → Bool} {held : Bool}
theorem open_ints9b {e i b : TypeId} {f0 f1 f2 f3 f4 f5 f6 f7 f8 f9 : Field} (he : P.underlying e = some (.struct #[f0, f1, f2, f3, f4, f5, f6, f7, f8, f9])) (hi : P.underlying i = some (.int .i64)) (hb : P.underlying b = some .bool) (t0 : f0.type = i) (o0 : f0.offset = 0) (t1 : f1.type = i) (o1 : f1.offset = 1) (t2 : f2.type = i) (o2 : f2.offset = 2) (t3 : f3.type = i) (o3 : f3.offset = 3) (t4 : f4.type = i) (o4 : f4.offset = 4) (t5 : f5.type = i) (o5 : f5.offset = 5) (t6 : f6.type = i) (o6 : f6.offset = 6) (t7 : f7.type = i) (o7 : f7.offset = 7) (t8 : f8.type = i) (o8 : f8.offset = 8) (t9 : f9.type = b) (o9 : f9.offset = 9)
    (ci : P.cellsOf i = 1) (cb : P.cellsOf b = 1) (ce : P.cellsOf e = 10) {fuel : Nat} {cs : List Value} {x : DataW H × List MemPlace}
    (h : DataW.trod enc P w 0 sp held fuel e cs = some x) : ∃ (k wn th fl ac la og st fr : Int) (sl : Bool), cs = [.int .i64 k, .int .i64 wn, .int .i64 th, .int .i64 fl, .int .i64 ac, .int .i64 la, .int .i64 og, .int .i64 st, .int .i64 fr, .bool sl] ∧ I64 k ∧ I64 wn ∧ I64 th ∧ I64 fl ∧ I64 ac ∧ I64 la ∧ I64 og ∧ I64 st ∧ I64 fr := by
  obtain ⟨xs, n, _, rfl, hl, hlen, hf⟩ := DataW.trod_struct he h
  rw [ce] at hl
  obtain ⟨c0, c1, c2, c3, c4, c5, c6, c7, c8, c9, rfl⟩ := list10 hl
  obtain ⟨y0, y1, y2, y3, y4, y5, y6, y7, y8, y9, rfl⟩ := list10 (show xs.length = 10 from hlen)
  have h0 := hf 0 f0 rfl
  change _ = some y0 at h0
  rw [o0, t0, ci] at h0
  have h1 := hf 1 f1 rfl
  change _ = some y1 at h1
  rw [o1, t1, ci] at h1
  have h2 := hf 2 f2 rfl
  change _ = some y2 at h2
  rw [o2, t2, ci] at h2
  have h3 := hf 3 f3 rfl
  change _ = some y3 at h3
  rw [o3, t3, ci] at h3
  have h4 := hf 4 f4 rfl
  change _ = some y4 at h4
  rw [o4, t4, ci] at h4
  have h5 := hf 5 f5 rfl
  change _ = some y5 at h5
  rw [o5, t5, ci] at h5
  have h6 := hf 6 f6 rfl
  change _ = some y6 at h6
  rw [o6, t6, ci] at h6
  have h7 := hf 7 f7 rfl
  change _ = some y7 at h7
  rw [o7, t7, ci] at h7
  have h8 := hf 8 f8 rfl
  change _ = some y8 at h8
  rw [o8, t8, ci] at h8
  have h9 := hf 9 f9 rfl
  change _ = some y9 at h9
  rw [o9, t9, cb] at h9
  obtain ⟨k, e0, _, w0⟩ := DataW.trod_int hi h0
  obtain ⟨wn, e1, _, w1⟩ := DataW.trod_int hi h1
  obtain ⟨th, e2, _, w2⟩ := DataW.trod_int hi h2
  obtain ⟨fl, e3, _, w3⟩ := DataW.trod_int hi h3
  obtain ⟨ac, e4, _, w4⟩ := DataW.trod_int hi h4
  obtain ⟨la, e5, _, w5⟩ := DataW.trod_int hi h5
  obtain ⟨og, e6, _, w6⟩ := DataW.trod_int hi h6
  obtain ⟨st, e7, _, w7⟩ := DataW.trod_int hi h7
  obtain ⟨fr, e8, _, w8⟩ := DataW.trod_int hi h8
  obtain ⟨sl, e9, _⟩ := DataW.trod_bool hb h9
  simp only [List.drop_zero, List.take_succ_cons, List.take_zero, List.drop_succ_cons, List.cons.injEq, and_true] at e0 e1 e2 e3 e4 e5 e6 e7 e8 e9
  exact ⟨k, wn, th, fl, ac, la, og, st, fr, sl, by rw [e0, e1, e2, e3, e4, e5, e6, e7, e8, e9], bounds_i64 w0, bounds_i64 w1, bounds_i64 w2, bounds_i64 w3, bounds_i64 w4, bounds_i64 w5, bounds_i64 w6, bounds_i64 w7, bounds_i64 w8⟩
end
theorem cells_cc : Try.prog.cellsOf 93 = 10 := by kernel_rfl
theorem cells_int64c : Try.prog.cellsOf 2 = 1 := by kernel_rfl
theorem cells_boolc : Try.prog.cellsOf 4 = 1 := by kernel_rfl
theorem open_cc {H : Type} {enc : TypeId × Value → H} {w : World} {sp : Nat → Bool} {held : Bool} {r : Reach} {b0 : Nat} {v : Value} {d : DataW H} {ps : List MemPlace}
    (hv : Value.okWide Try.prog w r b0 93 v) (h : DataW.Trod enc Try.prog w 0 sp held 93 v d ps) :
    ∃ (k wn th fl ac la og st fr : Int) (sl : Bool), v = .agg #[.int .i64 k, .int .i64 wn, .int .i64 th, .int .i64 fl, .int .i64 ac, .int .i64 la, .int .i64 og, .int .i64 st, .int .i64 fr, .bool sl] ∧ I64 k ∧ I64 wn ∧ I64 th ∧ I64 fl ∧ I64 ac ∧ I64 la ∧ I64 og ∧ I64 st ∧ I64 fr := by
  have hv' := hv
  unfold Value.okWide at hv'
  rw [Try.underlying93] at hv'
  obtain ⟨cs, rfl, hsz, _⟩ := hv'
  obtain ⟨n, hn⟩ := h
  have hn' : DataW.trod enc Try.prog w 0 sp held n 93 cs.toList = some (d, ps) := hn
  obtain ⟨k, wn, th, fl, ac, la, og, st, fr, sl, e, hI⟩ := open_ints9b Try.underlying93 Try.underlying2 Try.underlying4 rfl rfl rfl rfl rfl rfl rfl rfl rfl rfl rfl rfl rfl rfl rfl rfl rfl rfl rfl rfl cells_int64c cells_boolc cells_cc hn'
  refine ⟨k, wn, th, fl, ac, la, og, st, fr, sl, ?_, hI⟩
  congr 1
  exact Array.ext' e
theorem cells_ten {w : World} {g : Nat} {c0 c1 c2 c3 c4 c5 c6 c7 c8 c9 : Value} (h0 : w.cell? ⟨g, 0, none⟩ = some c0) (h1 : w.cell? ⟨g, 1, none⟩ = some c1) (h2 : w.cell? ⟨g, 2, none⟩ = some c2) (h3 : w.cell? ⟨g, 3, none⟩ = some c3) (h4 : w.cell? ⟨g, 4, none⟩ = some c4) (h5 : w.cell? ⟨g, 5, none⟩ = some c5) (h6 : w.cell? ⟨g, 6, none⟩ = some c6) (h7 : w.cell? ⟨g, 7, none⟩ = some c7) (h8 : w.cell? ⟨g, 8, none⟩ = some c8) (h9 : w.cell? ⟨g, 9, none⟩ = some c9) : ∀ j v, [c0, c1, c2, c3, c4, c5, c6, c7, c8, c9][j]? = some v → w.cell? ⟨g, j, none⟩ = some v := by
  intro j v hv
  match j, hv with
  | 0, hv => obtain rfl : c0 = v := by simpa using hv
             exact h0
  | 1, hv => obtain rfl : c1 = v := by simpa using hv
             exact h1
  | 2, hv => obtain rfl : c2 = v := by simpa using hv
             exact h2
  | 3, hv => obtain rfl : c3 = v := by simpa using hv
             exact h3
  | 4, hv => obtain rfl : c4 = v := by simpa using hv
             exact h4
  | 5, hv => obtain rfl : c5 = v := by simpa using hv
             exact h5
  | 6, hv => obtain rfl : c6 = v := by simpa using hv
             exact h6
  | 7, hv => obtain rfl : c7 = v := by simpa using hv
             exact h7
  | 8, hv => obtain rfl : c8 = v := by simpa using hv
             exact h8
  | 9, hv => obtain rfl : c9 = v := by simpa using hv
             exact h9
/-- A struct of ten is stored over: the world behind it as a letter. -/
theorem over10 {w : World} {g : Nat} {u0 u1 u2 u3 u4 u5 u6 u7 u8 u9 : Value} (c0 c1 c2 c3 c4 c5 c6 c7 c8 c9 : Value) (h0 : w.cell? ⟨g, 0, none⟩ = some u0) (h1 : w.cell? ⟨g, 1, none⟩ = some u1) (h2 : w.cell? ⟨g, 2, none⟩ = some u2) (h3 : w.cell? ⟨g, 3, none⟩ = some u3) (h4 : w.cell? ⟨g, 4, none⟩ = some u4) (h5 : w.cell? ⟨g, 5, none⟩ = some u5) (h6 : w.cell? ⟨g, 6, none⟩ = some u6) (h7 : w.cell? ⟨g, 7, none⟩ = some u7) (h8 : w.cell? ⟨g, 8, none⟩ = some u8) (h9 : w.cell? ⟨g, 9, none⟩ = some u9) :
    ∃ w4, w4 = ((((((((((w.setCell ⟨g, 0, none⟩ c0).setCell ⟨g, 1, none⟩ c1).setCell ⟨g, 2, none⟩ c2).setCell ⟨g, 3, none⟩ c3).setCell ⟨g, 4, none⟩ c4).setCell ⟨g, 5, none⟩ c5).setCell ⟨g, 6, none⟩ c6).setCell ⟨g, 7, none⟩ c7).setCell ⟨g, 8, none⟩ c8).setCell ⟨g, 9, none⟩ c9) ∧ (∀ j v, [c0, c1, c2, c3, c4, c5, c6, c7, c8, c9][j]? = some v → w4.cell? ⟨g, j, none⟩ = some v) ∧
      (∀ k o : Nat, k ≠ g → w4.cell? ⟨k, o, none⟩ = w.cell? ⟨k, o, none⟩) ∧ (∀ k o : Nat, w4.frozen? ⟨k, o, none⟩ = w.frozen? ⟨k, o, none⟩) ∧ w4.heap.size = w.heap.size ∧ (∀ B, B ≤ g → Below B w w4) := by
  refine ⟨_, rfl, ?_, ?_, fun k o => by simp, by simp, ?_⟩
  · refine cells_ten ?_ ?_ ?_ ?_ ?_ ?_ ?_ ?_ ?_ ?_
    · exact ((set_other4 (by decide)).trans ((set_other4 (by decide)).trans ((set_other4 (by decide)).trans ((set_other4 (by decide)).trans ((set_other4 (by decide)).trans ((set_other4 (by decide)).trans ((set_other4 (by decide)).trans ((set_other4 (by decide)).trans ((set_other4 (by decide)).trans (set_same4 _ h0))))))))))
    · exact ((set_other4 (by decide)).trans ((set_other4 (by decide)).trans ((set_other4 (by decide)).trans ((set_other4 (by decide)).trans ((set_other4 (by decide)).trans ((set_other4 (by decide)).trans ((set_other4 (by decide)).trans ((set_other4 (by decide)).trans (set_same4 _ ((set_other4 (by decide)).trans h1))))))))))
    · exact ((set_other4 (by decide)).trans ((set_other4 (by decide)).trans ((set_other4 (by decide)).trans ((set_other4 (by decide)).trans ((set_other4 (by decide)).trans ((set_other4 (by decide)).trans ((set_other4 (by decide)).trans (set_same4 _ ((set_other4 (by decide)).trans ((set_other4 (by decide)).trans h2))))))))))
    · exact ((set_other4 (by decide)).trans ((set_other4 (by decide)).trans ((set_other4 (by decide)).trans ((set_other4 (by decide)).trans ((set_other4 (by decide)).trans ((set_other4 (by decide)).trans (set_same4 _ ((set_other4 (by decide)).trans ((set_other4 (by decide)).trans ((set_other4 (by decide)).trans h3))))))))))
    · exact ((set_other4 (by decide)).trans ((set_other4 (by decide)).trans ((set_other4 (by decide)).trans ((set_other4 (by decide)).trans ((set_other4 (by decide)).trans (set_same4 _ ((set_other4 (by decide)).trans ((set_other4 (by decide)).trans ((set_other4 (by decide)).trans ((set_other4 (by decide)).trans h4))))))))))
    · exact ((set_other4 (by decide)).trans ((set_other4 (by decide)).trans ((set_other4 (by decide)).trans ((set_other4 (by decide)).trans (set_same4 _ ((set_other4 (by decide)).trans ((set_other4 (by decide)).trans ((set_other4 (by decide)).trans ((set_other4 (by decide)).trans ((set_other4 (by decide)).trans h5))))))))))
    · exact ((set_other4 (by decide)).trans ((set_other4 (by decide)).trans ((set_other4 (by decide)).trans (set_same4 _ ((set_other4 (by decide)).trans ((set_other4 (by decide)).trans ((set_other4 (by decide)).trans ((set_other4 (by decide)).trans ((set_other4 (by decide)).trans ((set_other4 (by decide)).trans h6))))))))))
    · exact ((set_other4 (by decide)).trans ((set_other4 (by decide)).trans (set_same4 _ ((set_other4 (by decide)).trans ((set_other4 (by decide)).trans ((set_other4 (by decide)).trans ((set_other4 (by decide)).trans ((set_other4 (by decide)).trans ((set_other4 (by decide)).trans ((set_other4 (by decide)).trans h7))))))))))
    · exact ((set_other4 (by decide)).trans (set_same4 _ ((set_other4 (by decide)).trans ((set_other4 (by decide)).trans ((set_other4 (by decide)).trans ((set_other4 (by decide)).trans ((set_other4 (by decide)).trans ((set_other4 (by decide)).trans ((set_other4 (by decide)).trans ((set_other4 (by decide)).trans h8))))))))))
    · exact (set_same4 _ ((set_other4 (by decide)).trans ((set_other4 (by decide)).trans ((set_other4 (by decide)).trans ((set_other4 (by decide)).trans ((set_other4 (by decide)).trans ((set_other4 (by decide)).trans ((set_other4 (by decide)).trans ((set_other4 (by decide)).trans ((set_other4 (by decide)).trans h9))))))))))
  · intro k o hk
    have far : ∀ (x : World) (i : Nat) (v : Value), (x.setCell ⟨g, i, none⟩ v).cell? ⟨k, o, none⟩ = x.cell? ⟨k, o, none⟩ := fun x i v => World.cell?_setCell_other _ _ _ _ (fun e => hk (by injection e with e; exact e.symm))
    rw [far, far, far, far, far, far, far, far, far, far]
  · intro B hB
    exact ((((((((((Below.refl B w).setCell (by exact hB) _).setCell (by exact hB) _).setCell (by exact hB) _).setCell (by exact hB) _).setCell (by exact hB) _).setCell (by exact hB) _).setCell (by exact hB) _).setCell (by exact hB) _).setCell (by exact hB) _).setCell (by exact hB) _
theorem toCc_any (k wn th fl ac la og st fr : Int) (sl : Bool) (w : World) :
    Calls Try.prog 94 #[.agg #[.int .i64 k, .int .i64 wn, .int .i64 th, .int .i64 fl, .int .i64 ac, .int .i64 la, .int .i64 og, .int .i64 st, .int .i64 fr, .bool sl]] w fun e w' => e = .returned (.agg #[.int .i64 k, .int .i64 wn, .int .i64 th, .int .i64 fl, .int .i64 ac, .int .i64 la, .int .i64 og, .int .i64 st, .int .i64 fr, .bool sl]) ∧ Below w.heap.size w w' := by
  go_enter Try.func94, Try.ntmps94
  go_wp2
  refine bodyPost_ret (results_one rfl _ _ _ [.int .i64 k, .int .i64 wn, .int .i64 th, .int .i64 fl, .int .i64 ac, .int .i64 la, .int .i64 og, .int .i64 st, .int .i64 fr, .bool sl] rfl (cells_ten (by go_simp) (by go_simp) (by go_simp) (by go_simp) (by go_simp) (by go_simp) (by go_simp) (by go_simp) (by go_simp) (by go_simp)) Try.underlying61 rfl (by kernel_rfl)) rfl ?_
  exact ⟨rfl, by go_grown⟩
theorem eqCc_same (k wn th fl ac la og st fr : Int) (sl : Bool) (w : World) :
    Calls Try.prog 112 #[.agg #[.int .i64 k, .int .i64 wn, .int .i64 th, .int .i64 fl, .int .i64 ac, .int .i64 la, .int .i64 og, .int .i64 st, .int .i64 fr, .bool sl], .agg #[.int .i64 k, .int .i64 wn, .int .i64 th, .int .i64 fl, .int .i64 ac, .int .i64 la, .int .i64 og, .int .i64 st, .int .i64 fr, .bool sl]] w fun e w' => e = .returned (.bool true) ∧ Below w.heap.size w w' := by
  cases sl
  all_goals
    go_enter Try.func112, Try.ntmps112
    go_wp2
    go_ret
    exact ⟨rfl, by go_grown⟩
end Go.Proofs.Ytibfclfidaofkas
namespace Go.Proofs.Ytibfclfidaofkas
open Go.ChangeShapes Go.WideShapes Go.ChangeAt Go.RowKit
set_option maxRecDepth 100000
set_option linter.unusedVariables false

def kindB (x : Int) : Bool := decide (1 ≤ x) && decide (x ≤ 3)
def openB (x : Int) : Bool := decide (3000 ≤ x) && decide (x ≤ 1000000000)
def w10B (x : Int) : Bool := decide (0 ≤ x) && decide (x ≤ 1000000000)
def s10B (x : Int) : Bool := decide (1 ≤ x) && decide (x ≤ 1500)
/-- When a Cc is right. -/
def ccB (k wn th fl ac la og st fr : Int) : Bool := ((((((((kindB k && openB wn) && openB th) && w10B fl) && w10B ac) && w10B la) && w10B og) && w10B fr) && timeB st)
theorem cc_num {k wn th fl ac la og st fr : Int} (h : ccB k wn th fl ac la og st fr = true) : (1 ≤ k ∧ k ≤ 3) ∧ (3000 ≤ wn ∧ wn ≤ 1000000000) ∧ (3000 ≤ th ∧ th ≤ 1000000000) ∧ (0 ≤ fl ∧ fl ≤ 1000000000) ∧ (0 ≤ ac ∧ ac ≤ 1000000000) ∧ (0 ≤ la ∧ la ≤ 1000000000) ∧ (0 ≤ og ∧ og ≤ 1000000000) ∧ (0 ≤ st ∧ st ≤ 1000000000000000) ∧ (0 ≤ fr ∧ fr ≤ 1000000000) := by
  unfold ccB kindB openB w10B timeB at h
  simp only [Bool.and_eq_true, decide_eq_true_eq] at h
  omega
theorem sBig_is {x : Int} {f : Bool} (h : openB x = f) (w : World) : Calls Try.prog 59 #[.int .i64 x] w fun e w' => e = .returned (.bool f) ∧ w' = w := by
  subst h
  go_enter Try.func59, Try.ntmps59
  go_wp2_with (first | (go_at_call 23; refine (in_any _ _ _ _).mono ?_; rintro e w2 ⟨rfl, rfl⟩))
  go_ret
  exact ⟨rfl, rfl⟩
theorem sWin_is {x : Int} {f : Bool} (h : w10B x = f) (w : World) : Calls Try.prog 60 #[.int .i64 x] w fun e w' => e = .returned (.bool f) ∧ w' = w := by
  subst h
  go_enter Try.func60, Try.ntmps60
  go_wp2_with (first | (go_at_call 23; refine (in_any _ _ _ _).mono ?_; rintro e w2 ⟨rfl, rfl⟩))
  go_ret
  exact ⟨rfl, rfl⟩
theorem sTim_is {x : Int} {f : Bool} (h : timeB x = f) (w : World) : Calls Try.prog 21 #[.int .i64 x] w fun e w' => e = .returned (.bool f) ∧ w' = w := by
  subst h
  go_enter Try.func21, Try.ntmps21
  go_wp2_with (first | (go_at_call 23; refine (in_any _ _ _ _).mono ?_; rintro e w2 ⟨rfl, rfl⟩))
  go_ret
  exact ⟨rfl, rfl⟩
theorem sSg_is {x : Int} {f : Bool} (h : s10B x = f) (w : World) : Calls Try.prog 58 #[.int .i64 x] w fun e w' => e = .returned (.bool f) ∧ w' = w := by
  subst h
  go_enter Try.func58, Try.ntmps58
  go_wp2_with (first | (go_at_call 23; refine (in_any _ _ _ _).mono ?_; rintro e w2 ⟨rfl, rfl⟩))
  go_ret
  exact ⟨rfl, rfl⟩
theorem iKind_is {x : Int} {f : Bool} (h : kindB x = f) (w : World) : Calls Try.prog 100 #[.int .i64 x] w fun e w' => e = .returned (.bool f) ∧ w' = w := by
  subst h
  go_enter Try.func100, Try.ntmps100
  go_wp2_with (first | (go_at_call 30; refine (iwithin_any _ _ _ _).mono ?_; rintro e w2 ⟨rfl, rfl⟩))
  go_ret
  exact ⟨rfl, rfl⟩
theorem iOpen_is {x : Int} {f : Bool} (h : openB x = f) (w : World) : Calls Try.prog 101 #[.int .i64 x] w fun e w' => e = .returned (.bool f) ∧ w' = w := by
  subst h
  go_enter Try.func101, Try.ntmps101
  go_wp2_with (first | (go_at_call 30; refine (iwithin_any _ _ _ _).mono ?_; rintro e w2 ⟨rfl, rfl⟩))
  go_ret
  exact ⟨rfl, rfl⟩
theorem iWin_is {x : Int} {f : Bool} (h : w10B x = f) (w : World) : Calls Try.prog 103 #[.int .i64 x] w fun e w' => e = .returned (.bool f) ∧ w' = w := by
  subst h
  go_enter Try.func103, Try.ntmps103
  go_wp2_with (first | (go_at_call 30; refine (iwithin_any _ _ _ _).mono ?_; rintro e w2 ⟨rfl, rfl⟩))
  go_ret
  exact ⟨rfl, rfl⟩
theorem iTim_is {x : Int} {f : Bool} (h : timeB x = f) (w : World) : Calls Try.prog 102 #[.int .i64 x] w fun e w' => e = .returned (.bool f) ∧ w' = w := by
  subst h
  go_enter Try.func102, Try.ntmps102
  go_wp2_with (first | (go_at_call 30; refine (iwithin_any _ _ _ _).mono ?_; rintro e w2 ⟨rfl, rfl⟩))
  go_ret
  exact ⟨rfl, rfl⟩
theorem iSg_is {x : Int} {f : Bool} (h : s10B x = f) (w : World) : Calls Try.prog 106 #[.int .i64 x] w fun e w' => e = .returned (.bool f) ∧ w' = w := by
  subst h
  go_enter Try.func106, Try.ntmps106
  go_wp2_with (first | (go_at_call 30; refine (iwithin_any _ _ _ _).mono ?_; rintro e w2 ⟨rfl, rfl⟩))
  go_ret
  exact ⟨rfl, rfl⟩
theorem sKind_is {x : Int} {f : Bool} (h : kindB x = f) (w : World) : Calls Try.prog 23 #[.int .i64 x, .int .i64 1, .int .i64 3] w fun e w' => e = .returned (.bool f) ∧ w' = w := by subst h; exact in_any 1 x 3 w
set_option maxHeartbeats 4000000 in
theorem specCcOk_any (k wn th fl ac la og st fr : Int) (sl : Bool) (w : World) : Calls Try.prog 57 #[.agg #[.int .i64 k, .int .i64 wn, .int .i64 th, .int .i64 fl, .int .i64 ac, .int .i64 la, .int .i64 og, .int .i64 st, .int .i64 fr, .bool sl]] w fun e w' => e = .returned (.bool (ccB k wn th fl ac la og st fr)) ∧ w' = w.alloc (.cells #[.int .i64 k, .int .i64 wn, .int .i64 th, .int .i64 fl, .int .i64 ac, .int .i64 la, .int .i64 og, .int .i64 st, .int .i64 fr, .bool sl] 61) := by
  have key : ∀ fk fwn fth ffl fac fla fog ffr fst : Bool, kindB k = fk → openB wn = fwn → openB th = fth → w10B fl = ffl → w10B ac = fac → w10B la = fla → w10B og = fog → w10B fr = ffr → timeB st = fst → Calls Try.prog 57 #[.agg #[.int .i64 k, .int .i64 wn, .int .i64 th, .int .i64 fl, .int .i64 ac, .int .i64 la, .int .i64 og, .int .i64 st, .int .i64 fr, .bool sl]] w fun e w' => e = .returned (.bool (((((((((fk && fwn) && fth) && ffl) && fac) && fla) && fog) && ffr) && fst))) ∧ w' = w.alloc (.cells #[.int .i64 k, .int .i64 wn, .int .i64 th, .int .i64 fl, .int .i64 ac, .int .i64 la, .int .i64 og, .int .i64 st, .int .i64 fr, .bool sl] 61) := by
    intro fk fwn fth ffl fac fla fog ffr fst hk hwn hth hfl hac hla hog hfr hst
    cases fk
    · go_enter Try.func57, Try.ntmps57
      go_wp2_with (first
        | (go_at_call 23; refine (sKind_is hk _).mono ?_; rintro e w2 ⟨rfl, rfl⟩))
      go_ret
      exact ⟨rfl, rfl⟩
    cases fwn
    · go_enter Try.func57, Try.ntmps57
      go_wp2_with (first
        | (go_at_call 23; refine (sKind_is hk _).mono ?_; rintro e w2 ⟨rfl, rfl⟩)
        | (go_at_call 59; refine (sBig_is hwn _).mono ?_; rintro e w2 ⟨rfl, rfl⟩))
      go_ret
      exact ⟨rfl, rfl⟩
    cases fth
    · go_enter Try.func57, Try.ntmps57
      go_wp2_with (first
        | (go_at_call 23; refine (sKind_is hk _).mono ?_; rintro e w2 ⟨rfl, rfl⟩)
        | (go_at_call 59; refine (sBig_is hwn _).mono ?_; rintro e w2 ⟨rfl, rfl⟩)
        | (go_at_call 59; refine (sBig_is hth _).mono ?_; rintro e w2 ⟨rfl, rfl⟩))
      go_ret
      exact ⟨rfl, rfl⟩
    cases ffl
    · go_enter Try.func57, Try.ntmps57
      go_wp2_with (first
        | (go_at_call 23; refine (sKind_is hk _).mono ?_; rintro e w2 ⟨rfl, rfl⟩)
        | (go_at_call 59; refine (sBig_is hwn _).mono ?_; rintro e w2 ⟨rfl, rfl⟩)
        | (go_at_call 59; refine (sBig_is hth _).mono ?_; rintro e w2 ⟨rfl, rfl⟩)
        | (go_at_call 60; refine (sWin_is hfl _).mono ?_; rintro e w2 ⟨rfl, rfl⟩))
      go_ret
      exact ⟨rfl, rfl⟩
    cases fac
    · go_enter Try.func57, Try.ntmps57
      go_wp2_with (first
        | (go_at_call 23; refine (sKind_is hk _).mono ?_; rintro e w2 ⟨rfl, rfl⟩)
        | (go_at_call 59; refine (sBig_is hwn _).mono ?_; rintro e w2 ⟨rfl, rfl⟩)
        | (go_at_call 59; refine (sBig_is hth _).mono ?_; rintro e w2 ⟨rfl, rfl⟩)
        | (go_at_call 60; refine (sWin_is hfl _).mono ?_; rintro e w2 ⟨rfl, rfl⟩)
        | (go_at_call 60; refine (sWin_is hac _).mono ?_; rintro e w2 ⟨rfl, rfl⟩))
      go_ret
      exact ⟨rfl, rfl⟩
    cases fla
    · go_enter Try.func57, Try.ntmps57
      go_wp2_with (first
        | (go_at_call 23; refine (sKind_is hk _).mono ?_; rintro e w2 ⟨rfl, rfl⟩)
        | (go_at_call 59; refine (sBig_is hwn _).mono ?_; rintro e w2 ⟨rfl, rfl⟩)
        | (go_at_call 59; refine (sBig_is hth _).mono ?_; rintro e w2 ⟨rfl, rfl⟩)
        | (go_at_call 60; refine (sWin_is hfl _).mono ?_; rintro e w2 ⟨rfl, rfl⟩)
        | (go_at_call 60; refine (sWin_is hac _).mono ?_; rintro e w2 ⟨rfl, rfl⟩)
        | (go_at_call 60; refine (sWin_is hla _).mono ?_; rintro e w2 ⟨rfl, rfl⟩))
      go_ret
      exact ⟨rfl, rfl⟩
    cases fog
    · go_enter Try.func57, Try.ntmps57
      go_wp2_with (first
        | (go_at_call 23; refine (sKind_is hk _).mono ?_; rintro e w2 ⟨rfl, rfl⟩)
        | (go_at_call 59; refine (sBig_is hwn _).mono ?_; rintro e w2 ⟨rfl, rfl⟩)
        | (go_at_call 59; refine (sBig_is hth _).mono ?_; rintro e w2 ⟨rfl, rfl⟩)
        | (go_at_call 60; refine (sWin_is hfl _).mono ?_; rintro e w2 ⟨rfl, rfl⟩)
        | (go_at_call 60; refine (sWin_is hac _).mono ?_; rintro e w2 ⟨rfl, rfl⟩)
        | (go_at_call 60; refine (sWin_is hla _).mono ?_; rintro e w2 ⟨rfl, rfl⟩)
        | (go_at_call 60; refine (sWin_is hog _).mono ?_; rintro e w2 ⟨rfl, rfl⟩))
      go_ret
      exact ⟨rfl, rfl⟩
    cases ffr
    · go_enter Try.func57, Try.ntmps57
      go_wp2_with (first
        | (go_at_call 23; refine (sKind_is hk _).mono ?_; rintro e w2 ⟨rfl, rfl⟩)
        | (go_at_call 59; refine (sBig_is hwn _).mono ?_; rintro e w2 ⟨rfl, rfl⟩)
        | (go_at_call 59; refine (sBig_is hth _).mono ?_; rintro e w2 ⟨rfl, rfl⟩)
        | (go_at_call 60; refine (sWin_is hfl _).mono ?_; rintro e w2 ⟨rfl, rfl⟩)
        | (go_at_call 60; refine (sWin_is hac _).mono ?_; rintro e w2 ⟨rfl, rfl⟩)
        | (go_at_call 60; refine (sWin_is hla _).mono ?_; rintro e w2 ⟨rfl, rfl⟩)
        | (go_at_call 60; refine (sWin_is hog _).mono ?_; rintro e w2 ⟨rfl, rfl⟩)
        | (go_at_call 60; refine (sWin_is hfr _).mono ?_; rintro e w2 ⟨rfl, rfl⟩))
      go_ret
      exact ⟨rfl, rfl⟩
    cases fst
    · go_enter Try.func57, Try.ntmps57
      go_wp2_with (first
        | (go_at_call 23; refine (sKind_is hk _).mono ?_; rintro e w2 ⟨rfl, rfl⟩)
        | (go_at_call 59; refine (sBig_is hwn _).mono ?_; rintro e w2 ⟨rfl, rfl⟩)
        | (go_at_call 59; refine (sBig_is hth _).mono ?_; rintro e w2 ⟨rfl, rfl⟩)
        | (go_at_call 60; refine (sWin_is hfl _).mono ?_; rintro e w2 ⟨rfl, rfl⟩)
        | (go_at_call 60; refine (sWin_is hac _).mono ?_; rintro e w2 ⟨rfl, rfl⟩)
        | (go_at_call 60; refine (sWin_is hla _).mono ?_; rintro e w2 ⟨rfl, rfl⟩)
        | (go_at_call 60; refine (sWin_is hog _).mono ?_; rintro e w2 ⟨rfl, rfl⟩)
        | (go_at_call 60; refine (sWin_is hfr _).mono ?_; rintro e w2 ⟨rfl, rfl⟩)
        | (go_at_call 21; refine (sTim_is hst _).mono ?_; rintro e w2 ⟨rfl, rfl⟩))
      go_ret
      exact ⟨rfl, rfl⟩
    go_enter Try.func57, Try.ntmps57
    go_wp2_with (first
      | (go_at_call 23; refine (sKind_is hk _).mono ?_; rintro e w2 ⟨rfl, rfl⟩)
      | (go_at_call 59; refine (sBig_is hwn _).mono ?_; rintro e w2 ⟨rfl, rfl⟩)
      | (go_at_call 59; refine (sBig_is hth _).mono ?_; rintro e w2 ⟨rfl, rfl⟩)
      | (go_at_call 60; refine (sWin_is hfl _).mono ?_; rintro e w2 ⟨rfl, rfl⟩)
      | (go_at_call 60; refine (sWin_is hac _).mono ?_; rintro e w2 ⟨rfl, rfl⟩)
      | (go_at_call 60; refine (sWin_is hla _).mono ?_; rintro e w2 ⟨rfl, rfl⟩)
      | (go_at_call 60; refine (sWin_is hog _).mono ?_; rintro e w2 ⟨rfl, rfl⟩)
      | (go_at_call 60; refine (sWin_is hfr _).mono ?_; rintro e w2 ⟨rfl, rfl⟩)
      | (go_at_call 21; refine (sTim_is hst _).mono ?_; rintro e w2 ⟨rfl, rfl⟩))
    go_ret
    exact ⟨rfl, rfl⟩
  exact key _ _ _ _ _ _ _ _ _ rfl rfl rfl rfl rfl rfl rfl rfl rfl
theorem specCcOk_is {k wn th fl ac la og st fr : Int} {f : Bool} (h : ccB k wn th fl ac la og st fr = f) (sl : Bool) (w : World) : Calls Try.prog 57 #[.agg #[.int .i64 k, .int .i64 wn, .int .i64 th, .int .i64 fl, .int .i64 ac, .int .i64 la, .int .i64 og, .int .i64 st, .int .i64 fr, .bool sl]] w fun e w' => e = .returned (.bool f) ∧ w' = w.alloc (.cells #[.int .i64 k, .int .i64 wn, .int .i64 th, .int .i64 fl, .int .i64 ac, .int .i64 la, .int .i64 og, .int .i64 st, .int .i64 fr, .bool sl] 61) := by
  subst h; exact specCcOk_any k wn th fl ac la og st fr sl w
end Go.Proofs.Ytibfclfidaofkas
namespace Go.Proofs.Ytibfclfidaofkas
open Go.ChangeShapes Go.WideShapes Go.ChangeAt Go.RowKit
set_option maxRecDepth 100000
set_option linter.unusedVariables false

set_option maxHeartbeats 4000000 in
theorem implCcOk_any (k wn th fl ac la og st fr : Int) (sl : Bool) (w : World) : Calls Try.prog 71 #[.agg #[.int .i64 k, .int .i64 wn, .int .i64 th, .int .i64 fl, .int .i64 ac, .int .i64 la, .int .i64 og, .int .i64 st, .int .i64 fr, .bool sl]] w fun e w' => e = .returned (.bool (ccB k wn th fl ac la og st fr)) ∧ w' = w.alloc (.cells #[.int .i64 k, .int .i64 wn, .int .i64 th, .int .i64 fl, .int .i64 ac, .int .i64 la, .int .i64 og, .int .i64 st, .int .i64 fr, .bool sl] 61) := by
  have key : ∀ fk fwn fth fst ffl fac fla fog ffr : Bool, kindB k = fk → openB wn = fwn → openB th = fth → timeB st = fst → w10B fl = ffl → w10B ac = fac → w10B la = fla → w10B og = fog → w10B fr = ffr → Calls Try.prog 71 #[.agg #[.int .i64 k, .int .i64 wn, .int .i64 th, .int .i64 fl, .int .i64 ac, .int .i64 la, .int .i64 og, .int .i64 st, .int .i64 fr, .bool sl]] w fun e w' => e = .returned (.bool (((((((((fk && fwn) && fth) && ffl) && fac) && fla) && fog) && ffr) && fst))) ∧ w' = w.alloc (.cells #[.int .i64 k, .int .i64 wn, .int .i64 th, .int .i64 fl, .int .i64 ac, .int .i64 la, .int .i64 og, .int .i64 st, .int .i64 fr, .bool sl] 61) := by
    intro fk fwn fth fst ffl fac fla fog ffr hk hwn hth hst hfl hac hla hog hfr
    cases fk
    · go_enter Try.func71, Try.ntmps71
      go_wp2_with (first
        | (go_at_call 100; refine (iKind_is hk _).mono ?_; rintro e w2 ⟨rfl, rfl⟩))
      go_ret
      exact ⟨rfl, rfl⟩
    cases fwn
    · go_enter Try.func71, Try.ntmps71
      go_wp2_with (first
        | (go_at_call 100; refine (iKind_is hk _).mono ?_; rintro e w2 ⟨rfl, rfl⟩)
        | (go_at_call 101; refine (iOpen_is hwn _).mono ?_; rintro e w2 ⟨rfl, rfl⟩))
      go_ret
      exact ⟨rfl, rfl⟩
    cases fth
    · go_enter Try.func71, Try.ntmps71
      go_wp2_with (first
        | (go_at_call 100; refine (iKind_is hk _).mono ?_; rintro e w2 ⟨rfl, rfl⟩)
        | (go_at_call 101; refine (iOpen_is hwn _).mono ?_; rintro e w2 ⟨rfl, rfl⟩)
        | (go_at_call 101; refine (iOpen_is hth _).mono ?_; rintro e w2 ⟨rfl, rfl⟩))
      go_ret
      exact ⟨rfl, rfl⟩
    cases fst
    · rw [Bool.and_false]
      go_enter Try.func71, Try.ntmps71
      go_wp2_with (first
        | (go_at_call 100; refine (iKind_is hk _).mono ?_; rintro e w2 ⟨rfl, rfl⟩)
        | (go_at_call 101; refine (iOpen_is hwn _).mono ?_; rintro e w2 ⟨rfl, rfl⟩)
        | (go_at_call 101; refine (iOpen_is hth _).mono ?_; rintro e w2 ⟨rfl, rfl⟩)
        | (go_at_call 102; refine (iTim_is hst _).mono ?_; rintro e w2 ⟨rfl, rfl⟩))
      go_ret
      exact ⟨rfl, rfl⟩
    cases ffl
    · go_enter Try.func71, Try.ntmps71
      go_wp2_with (first
        | (go_at_call 100; refine (iKind_is hk _).mono ?_; rintro e w2 ⟨rfl, rfl⟩)
        | (go_at_call 101; refine (iOpen_is hwn _).mono ?_; rintro e w2 ⟨rfl, rfl⟩)
        | (go_at_call 101; refine (iOpen_is hth _).mono ?_; rintro e w2 ⟨rfl, rfl⟩)
        | (go_at_call 102; refine (iTim_is hst _).mono ?_; rintro e w2 ⟨rfl, rfl⟩)
        | (go_at_call 103; refine (iWin_is hfl _).mono ?_; rintro e w2 ⟨rfl, rfl⟩))
      go_ret
      exact ⟨rfl, rfl⟩
    cases fac
    · go_enter Try.func71, Try.ntmps71
      go_wp2_with (first
        | (go_at_call 100; refine (iKind_is hk _).mono ?_; rintro e w2 ⟨rfl, rfl⟩)
        | (go_at_call 101; refine (iOpen_is hwn _).mono ?_; rintro e w2 ⟨rfl, rfl⟩)
        | (go_at_call 101; refine (iOpen_is hth _).mono ?_; rintro e w2 ⟨rfl, rfl⟩)
        | (go_at_call 102; refine (iTim_is hst _).mono ?_; rintro e w2 ⟨rfl, rfl⟩)
        | (go_at_call 103; refine (iWin_is hfl _).mono ?_; rintro e w2 ⟨rfl, rfl⟩)
        | (go_at_call 103; refine (iWin_is hac _).mono ?_; rintro e w2 ⟨rfl, rfl⟩))
      go_ret
      exact ⟨rfl, rfl⟩
    cases fla
    · go_enter Try.func71, Try.ntmps71
      go_wp2_with (first
        | (go_at_call 100; refine (iKind_is hk _).mono ?_; rintro e w2 ⟨rfl, rfl⟩)
        | (go_at_call 101; refine (iOpen_is hwn _).mono ?_; rintro e w2 ⟨rfl, rfl⟩)
        | (go_at_call 101; refine (iOpen_is hth _).mono ?_; rintro e w2 ⟨rfl, rfl⟩)
        | (go_at_call 102; refine (iTim_is hst _).mono ?_; rintro e w2 ⟨rfl, rfl⟩)
        | (go_at_call 103; refine (iWin_is hfl _).mono ?_; rintro e w2 ⟨rfl, rfl⟩)
        | (go_at_call 103; refine (iWin_is hac _).mono ?_; rintro e w2 ⟨rfl, rfl⟩)
        | (go_at_call 103; refine (iWin_is hla _).mono ?_; rintro e w2 ⟨rfl, rfl⟩))
      go_ret
      exact ⟨rfl, rfl⟩
    cases fog
    · go_enter Try.func71, Try.ntmps71
      go_wp2_with (first
        | (go_at_call 100; refine (iKind_is hk _).mono ?_; rintro e w2 ⟨rfl, rfl⟩)
        | (go_at_call 101; refine (iOpen_is hwn _).mono ?_; rintro e w2 ⟨rfl, rfl⟩)
        | (go_at_call 101; refine (iOpen_is hth _).mono ?_; rintro e w2 ⟨rfl, rfl⟩)
        | (go_at_call 102; refine (iTim_is hst _).mono ?_; rintro e w2 ⟨rfl, rfl⟩)
        | (go_at_call 103; refine (iWin_is hfl _).mono ?_; rintro e w2 ⟨rfl, rfl⟩)
        | (go_at_call 103; refine (iWin_is hac _).mono ?_; rintro e w2 ⟨rfl, rfl⟩)
        | (go_at_call 103; refine (iWin_is hla _).mono ?_; rintro e w2 ⟨rfl, rfl⟩)
        | (go_at_call 103; refine (iWin_is hog _).mono ?_; rintro e w2 ⟨rfl, rfl⟩))
      go_ret
      exact ⟨rfl, rfl⟩
    cases ffr
    · go_enter Try.func71, Try.ntmps71
      go_wp2_with (first
        | (go_at_call 100; refine (iKind_is hk _).mono ?_; rintro e w2 ⟨rfl, rfl⟩)
        | (go_at_call 101; refine (iOpen_is hwn _).mono ?_; rintro e w2 ⟨rfl, rfl⟩)
        | (go_at_call 101; refine (iOpen_is hth _).mono ?_; rintro e w2 ⟨rfl, rfl⟩)
        | (go_at_call 102; refine (iTim_is hst _).mono ?_; rintro e w2 ⟨rfl, rfl⟩)
        | (go_at_call 103; refine (iWin_is hfl _).mono ?_; rintro e w2 ⟨rfl, rfl⟩)
        | (go_at_call 103; refine (iWin_is hac _).mono ?_; rintro e w2 ⟨rfl, rfl⟩)
        | (go_at_call 103; refine (iWin_is hla _).mono ?_; rintro e w2 ⟨rfl, rfl⟩)
        | (go_at_call 103; refine (iWin_is hog _).mono ?_; rintro e w2 ⟨rfl, rfl⟩)
        | (go_at_call 103; refine (iWin_is hfr _).mono ?_; rintro e w2 ⟨rfl, rfl⟩))
      go_ret
      exact ⟨rfl, rfl⟩
    go_enter Try.func71, Try.ntmps71
    go_wp2_with (first
      | (go_at_call 100; refine (iKind_is hk _).mono ?_; rintro e w2 ⟨rfl, rfl⟩)
      | (go_at_call 101; refine (iOpen_is hwn _).mono ?_; rintro e w2 ⟨rfl, rfl⟩)
      | (go_at_call 101; refine (iOpen_is hth _).mono ?_; rintro e w2 ⟨rfl, rfl⟩)
      | (go_at_call 102; refine (iTim_is hst _).mono ?_; rintro e w2 ⟨rfl, rfl⟩)
      | (go_at_call 103; refine (iWin_is hfl _).mono ?_; rintro e w2 ⟨rfl, rfl⟩)
      | (go_at_call 103; refine (iWin_is hac _).mono ?_; rintro e w2 ⟨rfl, rfl⟩)
      | (go_at_call 103; refine (iWin_is hla _).mono ?_; rintro e w2 ⟨rfl, rfl⟩)
      | (go_at_call 103; refine (iWin_is hog _).mono ?_; rintro e w2 ⟨rfl, rfl⟩)
      | (go_at_call 103; refine (iWin_is hfr _).mono ?_; rintro e w2 ⟨rfl, rfl⟩))
    go_ret
    exact ⟨rfl, rfl⟩
  exact key _ _ _ _ _ _ _ _ _ rfl rfl rfl rfl rfl rfl rfl rfl rfl
theorem implCcOk_is {k wn th fl ac la og st fr : Int} {f : Bool} (h : ccB k wn th fl ac la og st fr = f) (sl : Bool) (w : World) : Calls Try.prog 71 #[.agg #[.int .i64 k, .int .i64 wn, .int .i64 th, .int .i64 fl, .int .i64 ac, .int .i64 la, .int .i64 og, .int .i64 st, .int .i64 fr, .bool sl]] w fun e w' => e = .returned (.bool f) ∧ w' = w.alloc (.cells #[.int .i64 k, .int .i64 wn, .int .i64 th, .int .i64 fl, .int .i64 ac, .int .i64 la, .int .i64 og, .int .i64 st, .int .i64 fr, .bool sl] 61) := by
  subst h; exact implCcOk_any k wn th fl ac la og st fr sl w
end Go.Proofs.Ytibfclfidaofkas
namespace Go.Proofs.Ytibfclfidaofkas
open Go.ChangeShapes Go.WideShapes Go.ChangeAt Go.RowKit
set_option maxRecDepth 100000
set_option linter.unusedVariables false

def halfW (wn : Int) : Int := max 3000 (wn / 2)
theorem tdiv10 {x : Int} (h : 0 ≤ x) (m : Int) : x.tdiv m = x / m := Int.tdiv_eq_ediv_of_nonneg h
end Go.Proofs.Ytibfclfidaofkas

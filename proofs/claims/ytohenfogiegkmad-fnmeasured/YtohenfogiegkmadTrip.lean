/- Trips: a flag and three numbers. How one that came in is opened; the laws' copies and comparisons; what spec's functions answer. -/
import Derived.Test.YtohenfogiegkmadBuck
import Derived.Test.YtohenfogiegkmadSmp
namespace Go.Proofs.Ytohenfogiegkmad
open Go.ChangeShapes Go.WideShapes Go.ChangeAt Go.RowKit
set_option maxRecDepth 100000
set_option linter.unusedVariables false

section
variable {H : Type} {enc : TypeId × Value → H} {P : Program} {w : World} {sp : Nat → Bool} {held : Bool}
theorem open_bints3 {e i b : TypeId} {f0 f1 f2 f3 : Field} (he : P.underlying e = some (.struct #[f0, f1, f2, f3])) (hi : P.underlying i = some (.int .i64)) (hb : P.underlying b = some .bool) (t0 : f0.type = b) (t1 : f1.type = i) (t2 : f2.type = i) (t3 : f3.type = i)
    (o0 : f0.offset = 0) (o1 : f1.offset = 1) (o2 : f2.offset = 2) (o3 : f3.offset = 3) (ci : P.cellsOf i = 1) (cb : P.cellsOf b = 1) (ce : P.cellsOf e = 4) {fuel : Nat} {cs : List Value} {x : DataW H × List MemPlace}
    (h : DataW.trod enc P w 0 sp held fuel e cs = some x) : ∃ (p : Bool) (q r s : Int), cs = [.bool p, .int .i64 q, .int .i64 r, .int .i64 s] ∧ I64 q ∧ I64 r ∧ I64 s := by
  obtain ⟨y0, y1, y2, y3, n, _, hl, h0, h1, h2, h3⟩ := Go.Joins.trod_struct4 he h
  rw [ce] at hl
  match cs, hl with
  | [a, b, c, d], _ =>
    rw [o0, t0, cb] at h0
    rw [o1, t1, ci] at h1
    rw [o2, t2, ci] at h2
    rw [o3, t3, ci] at h3
    obtain ⟨p, e0, _⟩ := DataW.trod_bool hb h0
    obtain ⟨q, e1, _, w1⟩ := DataW.trod_int hi h1
    obtain ⟨r, e2, _, w2⟩ := DataW.trod_int hi h2
    obtain ⟨s, e3, _, w3⟩ := DataW.trod_int hi h3
    simp only [List.drop_zero, List.take_succ_cons, List.take_zero, List.drop_succ_cons, List.cons.injEq, and_true] at e0 e1 e2 e3
    exact ⟨p, q, r, s, by rw [e0, e1, e2, e3], bounds_i64 w1, bounds_i64 w2, bounds_i64 w3⟩
end
theorem cells_int64t : Try.prog.cellsOf 2 = 1 := by kernel_rfl
theorem cells_boolt : Try.prog.cellsOf 4 = 1 := by kernel_rfl
/-- A trip as a value. -/
abbrev trV (a : Bool × Int × Int × Int) : Value := .agg #[.bool a.1, .int .i64 a.2.1, .int .i64 a.2.2.1, .int .i64 a.2.2.2]
def backB (b : Int) : Bool := decide (0 ≤ b) && decide (b ≤ 10)
def noneB (k : Bool) (s v : Int) : Bool := k || (decide (s = 0) && decide (v = 0))
/-- When a trip is right. -/
def tokB (k : Bool) (s v b : Int) : Bool := ((timeB s && timeB v) && backB b) && noneB k s v
theorem tok_num {k : Bool} {s v b : Int} (h : tokB k s v b = true) : (0 ≤ s ∧ s ≤ 1000000000000000) ∧ (0 ≤ v ∧ v ≤ 1000000000000000) ∧ (0 ≤ b ∧ b ≤ 10) := by
  unfold tokB backB timeB at h
  simp only [Bool.and_eq_true, decide_eq_true_eq] at h
  omega
set_option maxHeartbeats 2000000 in
theorem specTripOk_any (k : Bool) (s v b : Int) (w : World) : Calls Try.prog 44 #[.agg #[.bool k, .int .i64 s, .int .i64 v, .int .i64 b]] w fun e w' => e = .returned (.bool (tokB k s v b)) ∧ Below w.heap.size w w' := by
  have key : ∀ f1 f2 f3 f4 : Bool, timeB s = f1 → timeB v = f2 → backB b = f3 → noneB k s v = f4 → Calls Try.prog 44 #[.agg #[.bool k, .int .i64 s, .int .i64 v, .int .i64 b]] w fun e w' => e = .returned (.bool (((f1 && f2) && f3) && f4)) ∧ Below w.heap.size w w' := by
    intro f1 f2 f3 f4 h1 h2 h3 h4
    have h3' : (decide (0 ≤ b) && decide (b ≤ 10)) = f3 := h3
    cases f1
    · go_enter Try.func44, Try.ntmps44
      go_wp2_with (first | (go_at_call 59; refine (time_any _ _).mono ?_; rintro e w2 ⟨rfl, rfl⟩; rw [h1]))
      go_ret
      exact ⟨rfl, by go_grown⟩
    cases f2
    · go_enter Try.func44, Try.ntmps44
      go_wp2_with (first | (go_at_call 59; refine (time_any s _).mono ?_; rintro e w2 ⟨rfl, rfl⟩; rw [h1]; have g1 := h1) | (go_at_call 59; have g2 := g1; refine (time_any v _).mono ?_; rintro e w2 ⟨rfl, rfl⟩; rw [h2]))
      go_ret
      exact ⟨rfl, by go_grown⟩
    cases f3
    · go_enter Try.func44, Try.ntmps44
      go_wp2_with (first | (go_at_call 59; refine (time_any s _).mono ?_; rintro e w2 ⟨rfl, rfl⟩; rw [h1]; have g1 := h1) | (go_at_call 59; have g2 := g1; refine (time_any v _).mono ?_; rintro e w2 ⟨rfl, rfl⟩; rw [h2]) | (go_at_call 73; refine (in_any _ _ _ _).mono ?_; rintro e w2 ⟨rfl, rfl⟩; rw [h3']))
      go_ret
      exact ⟨rfl, by go_grown⟩
    cases k
    · subst h4
      by_cases hs : s = 0
      · subst hs
        have e4 : noneB false 0 v = (v == 0) := by unfold noneB; by_cases hv : v = 0 <;> simp [hv]
        rw [e4]
        go_enter Try.func44, Try.ntmps44
        go_wp2_with (first | (go_at_call 59; refine (time_any 0 _).mono ?_; rintro e w2 ⟨rfl, rfl⟩; rw [h1]; have g1 := h1) | (go_at_call 59; have g2 := g1; refine (time_any v _).mono ?_; rintro e w2 ⟨rfl, rfl⟩; rw [h2]) | (go_at_call 73; refine (in_any _ _ _ _).mono ?_; rintro e w2 ⟨rfl, rfl⟩; rw [h3']))
        go_ret
        exact ⟨rfl, by go_grown⟩
      · have e4 : noneB false s v = false := by unfold noneB; simp [hs]
        have hs' : (s == 0) = false := by simp [hs]
        rw [e4]
        go_enter Try.func44, Try.ntmps44
        go_wp2_with (first | (go_at_call 59; refine (time_any s _).mono ?_; rintro e w2 ⟨rfl, rfl⟩; rw [h1]; have g1 := h1) | (go_at_call 59; have g2 := g1; refine (time_any v _).mono ?_; rintro e w2 ⟨rfl, rfl⟩; rw [h2]) | (go_at_call 73; refine (in_any _ _ _ _).mono ?_; rintro e w2 ⟨rfl, rfl⟩; rw [h3']))
        go_ret
        exact ⟨rfl, by go_grown⟩
    · subst h4
      rw [show noneB true s v = true from rfl]
      go_enter Try.func44, Try.ntmps44
      go_wp2_with (first | (go_at_call 59; refine (time_any s _).mono ?_; rintro e w2 ⟨rfl, rfl⟩; rw [h1]; have g1 := h1) | (go_at_call 59; have g2 := g1; refine (time_any v _).mono ?_; rintro e w2 ⟨rfl, rfl⟩; rw [h2]) | (go_at_call 73; refine (in_any _ _ _ _).mono ?_; rintro e w2 ⟨rfl, rfl⟩; rw [h3']))
      go_ret
      exact ⟨rfl, by go_grown⟩
  exact key _ _ _ _ rfl rfl rfl rfl
theorem specTripOk_is {k : Bool} {s v b : Int} {f : Bool} (h : tokB k s v b = f) (w : World) : Calls Try.prog 44 #[.agg #[.bool k, .int .i64 s, .int .i64 v, .int .i64 b]] w fun e w' => e = .returned (.bool f) ∧ Below w.heap.size w w' := by
  subst h; exact specTripOk_any k s v b w
theorem maxT_any (x y : Int) (w : World) : Calls Try.prog 95 #[.int .i64 x, .int .i64 y] w fun e w' => e = .returned (.int .i64 (max x y)) ∧ w' = w := by
  by_cases h : x > y
  · rw [Int.max_eq_left (by omega)]
    go_enter Try.func95, Try.ntmps95
    go_wp2
    go_ret
    exact ⟨rfl, rfl⟩
  · rw [Int.max_eq_right (by omega)]
    go_enter Try.func95, Try.ntmps95
    go_wp2
    go_ret
    exact ⟨rfl, rfl⟩
theorem minT_any (x y : Int) (w : World) : Calls Try.prog 96 #[.int .i64 x, .int .i64 y] w fun e w' => e = .returned (.int .i64 (min x y)) ∧ w' = w := by
  by_cases h : x < y
  · rw [Int.min_eq_left (by omega)]
    go_enter Try.func96, Try.ntmps96
    go_wp2
    go_ret
    exact ⟨rfl, rfl⟩
  · rw [Int.min_eq_right (by omega)]
    go_enter Try.func96, Try.ntmps96
    go_wp2
    go_ret
    exact ⟨rfl, rfl⟩
def absOf (x : Int) : Int := if x < 0 then -x else x
theorem absT_any (x : Int) (w : World) (h0 : -1000000000000000 ≤ x) (h1 : x ≤ 1000000000000000) : Calls Try.prog 93 #[.int .i64 x] w fun e w' => e = .returned (.int .i64 (absOf x)) ∧ w' = w := by
  by_cases h : x < 0
  · have e0 : IntKind.i64.wrap (-x) = -x := by rw [IntKind.wrap_i64]; omega
    rw [show absOf x = -x from if_pos h]
    go_enter Try.func93, Try.ntmps93
    go_wp2
    go_ret
    exact ⟨rfl, rfl⟩
  · rw [show absOf x = x from if_neg h]
    go_enter Try.func93, Try.ntmps93
    go_wp2
    go_ret
    exact ⟨rfl, rfl⟩
end Go.Proofs.Ytohenfogiegkmad

/- Lemmas on the way, of several texts: Buck, SpecBuck. -/
import Derived.Test.YtoeiheccmpjclafGrpA
import Derived.Test.YtoeiheccmpjclafGrpC
import Derived.Lib.SmallJoins
import Derived.Test.YtoeiheccmpjclafGrpD
import Derived.Test.YtoeiheccmpjclafAdd
namespace Go.Proofs.Ytoeiheccmpjclaf
open Go.ChangeShapes Go.WideShapes Go.ChangeAt Go.RowKit
set_option maxRecDepth 100000
set_option linter.unusedVariables false

section
variable {H : Type} {enc : TypeId × Value → H} {P : Program} {w : World} {sp : Nat → Bool} {held : Bool}
theorem open_ints4 {e i : TypeId} {f0 f1 f2 f3 : Field} (he : P.underlying e = some (.struct #[f0, f1, f2, f3])) (hi : P.underlying i = some (.int .i64)) (t0 : f0.type = i) (t1 : f1.type = i) (t2 : f2.type = i) (t3 : f3.type = i)
    (o0 : f0.offset = 0) (o1 : f1.offset = 1) (o2 : f2.offset = 2) (o3 : f3.offset = 3) (ci : P.cellsOf i = 1) (ce : P.cellsOf e = 4) {fuel : Nat} {cs : List Value} {x : DataW H × List MemPlace}
    (h : DataW.trod enc P w 0 sp held fuel e cs = some x) : ∃ p q r s : Int, cs = [.int .i64 p, .int .i64 q, .int .i64 r, .int .i64 s] ∧ I64 p ∧ I64 q ∧ I64 r ∧ I64 s := by
  obtain ⟨y0, y1, y2, y3, n, _, hl, h0, h1, h2, h3⟩ := Go.Joins.trod_struct4 he h
  rw [ce] at hl
  match cs, hl with
  | [a, b, c, d], _ =>
    rw [o0, t0, ci] at h0
    rw [o1, t1, ci] at h1
    rw [o2, t2, ci] at h2
    rw [o3, t3, ci] at h3
    obtain ⟨p, e0, _, w0⟩ := DataW.trod_int hi h0
    obtain ⟨q, e1, _, w1⟩ := DataW.trod_int hi h1
    obtain ⟨r, e2, _, w2⟩ := DataW.trod_int hi h2
    obtain ⟨s, e3, _, w3⟩ := DataW.trod_int hi h3
    simp only [List.drop_zero, List.take_succ_cons, List.take_zero, List.drop_succ_cons, List.cons.injEq, and_true] at e0 e1 e2 e3
    exact ⟨p, q, r, s, by rw [e0, e1, e2, e3], bounds_i64 w0, bounds_i64 w1, bounds_i64 w2, bounds_i64 w3⟩
end
theorem cells_int64 : Try.prog.cellsOf 2 = 1 := by kernel_rfl
theorem cells_four {w : World} {g : Nat} {a b c d : Value} (h0 : w.cell? ⟨g, 0, none⟩ = some a) (h1 : w.cell? ⟨g, 1, none⟩ = some b) (h2 : w.cell? ⟨g, 2, none⟩ = some c) (h3 : w.cell? ⟨g, 3, none⟩ = some d) : ∀ j v, [a, b, c, d][j]? = some v → w.cell? ⟨g, j, none⟩ = some v := by
  intro j v hv
  match j, hv with
  | 0, hv => obtain rfl : a = v := by simpa using hv
             exact h0
  | 1, hv => obtain rfl : b = v := by simpa using hv
             exact h1
  | 2, hv => obtain rfl : c = v := by simpa using hv
             exact h2
  | 3, hv => obtain rfl : d = v := by simpa using hv
             exact h3
theorem set_same4 {w : World} {a : Addr} {u : Value} (v : Value) (h : w.cell? a = some u) : (w.setCell a v).cell? a = some v := World.cell?_setCell_same' w a v (by rw [h]; rfl)
theorem set_other4 {w : World} {b i j : Nat} {v : Value} (h : i ≠ j) : (w.setCell ⟨b, i, none⟩ v).cell? ⟨b, j, none⟩ = w.cell? ⟨b, j, none⟩ := by
  apply World.cell?_setCell_other
  intro e
  injection e with _ e _
  exact h e
/-- A struct of four that is stored. -/
theorem cells_set4 {w : World} {g : Nat} {u0 u1 u2 u3 : Value} (a b c d : Value) (h0 : w.cell? ⟨g, 0, none⟩ = some u0) (h1 : w.cell? ⟨g, 1, none⟩ = some u1) (h2 : w.cell? ⟨g, 2, none⟩ = some u2) (h3 : w.cell? ⟨g, 3, none⟩ = some u3) :
    ∀ j v, [a, b, c, d][j]? = some v → ((((w.setCell ⟨g, 0, none⟩ a).setCell ⟨g, 1, none⟩ b).setCell ⟨g, 2, none⟩ c).setCell ⟨g, 3, none⟩ d).cell? ⟨g, j, none⟩ = some v :=
  cells_four ((set_other4 (by decide)).trans ((set_other4 (by decide)).trans ((set_other4 (by decide)).trans (set_same4 _ h0))))
    ((set_other4 (by decide)).trans ((set_other4 (by decide)).trans (set_same4 _ ((set_other4 (by decide)).trans h1))))
    ((set_other4 (by decide)).trans (set_same4 _ ((set_other4 (by decide)).trans ((set_other4 (by decide)).trans h2))))
    (set_same4 _ ((set_other4 (by decide)).trans ((set_other4 (by decide)).trans ((set_other4 (by decide)).trans h3))))
theorem set4_all {w : World} {g : Nat} {u0 u1 u2 u3 : Value} (a b c d : Value) (h0 : w.cell? ⟨g, 0, none⟩ = some u0) (h1 : w.cell? ⟨g, 1, none⟩ = some u1) (h2 : w.cell? ⟨g, 2, none⟩ = some u2) (h3 : w.cell? ⟨g, 3, none⟩ = some u3) :
    ((((w.setCell ⟨g, 0, none⟩ a).setCell ⟨g, 1, none⟩ b).setCell ⟨g, 2, none⟩ c).setCell ⟨g, 3, none⟩ d).cell? ⟨g, 0, none⟩ = some a ∧ ((((w.setCell ⟨g, 0, none⟩ a).setCell ⟨g, 1, none⟩ b).setCell ⟨g, 2, none⟩ c).setCell ⟨g, 3, none⟩ d).cell? ⟨g, 1, none⟩ = some b ∧
    ((((w.setCell ⟨g, 0, none⟩ a).setCell ⟨g, 1, none⟩ b).setCell ⟨g, 2, none⟩ c).setCell ⟨g, 3, none⟩ d).cell? ⟨g, 2, none⟩ = some c ∧ ((((w.setCell ⟨g, 0, none⟩ a).setCell ⟨g, 1, none⟩ b).setCell ⟨g, 2, none⟩ c).setCell ⟨g, 3, none⟩ d).cell? ⟨g, 3, none⟩ = some d :=
  ⟨cells_set4 a b c d h0 h1 h2 h3 0 a rfl, cells_set4 a b c d h0 h1 h2 h3 1 b rfl, cells_set4 a b c d h0 h1 h2 h3 2 c rfl, cells_set4 a b c d h0 h1 h2 h3 3 d rfl⟩
/-- A struct of four is stored over: the world behind it as a letter. -/
theorem over4 {w : World} {g : Nat} {u0 u1 u2 u3 : Value} (a b c d : Value) (h0 : w.cell? ⟨g, 0, none⟩ = some u0) (h1 : w.cell? ⟨g, 1, none⟩ = some u1) (h2 : w.cell? ⟨g, 2, none⟩ = some u2) (h3 : w.cell? ⟨g, 3, none⟩ = some u3) :
    ∃ w4, w4 = ((((w.setCell ⟨g, 0, none⟩ a).setCell ⟨g, 1, none⟩ b).setCell ⟨g, 2, none⟩ c).setCell ⟨g, 3, none⟩ d) ∧ w4.cell? ⟨g, 0, none⟩ = some a ∧ w4.cell? ⟨g, 1, none⟩ = some b ∧ w4.cell? ⟨g, 2, none⟩ = some c ∧ w4.cell? ⟨g, 3, none⟩ = some d ∧
      (∀ k o : Nat, k ≠ g → w4.cell? ⟨k, o, none⟩ = w.cell? ⟨k, o, none⟩) ∧ (∀ k o : Nat, w4.frozen? ⟨k, o, none⟩ = w.frozen? ⟨k, o, none⟩) ∧ w4.heap.size = w.heap.size ∧ (∀ B, B ≤ g → Below B w w4) := by
  obtain ⟨s0, s1, s2, s3⟩ := set4_all a b c d h0 h1 h2 h3
  refine ⟨_, rfl, s0, s1, s2, s3, ?_, fun k o => by simp, by simp, fun B hB => ((((Below.refl B w).setCell (by exact hB) _).setCell (by exact hB) _).setCell (by exact hB) _).setCell (by exact hB) _⟩
  intro k o hk
  have far : ∀ (x : World) (i : Nat) (v : Value), (x.setCell ⟨g, i, none⟩ v).cell? ⟨k, o, none⟩ = x.cell? ⟨k, o, none⟩ := fun x i v => World.cell?_setCell_other _ _ _ _ (fun e => hk (by injection e with e; exact e.symm))
  rw [far, far, far, far]
theorem below_cells4 {w w' : World} (h : Below w.heap.size w w') : ∀ b o : Nat, b < w.heap.size → w'.cell? ⟨b, o, none⟩ = w.cell? ⟨b, o, none⟩ := fun b o hb => h.cell (by exact hb)
theorem below_frozens4 {w w' : World} (h : Below w.heap.size w w') : ∀ b o : Nat, b < w.heap.size → w'.frozen? ⟨b, o, none⟩ = w.frozen? ⟨b, o, none⟩ := fun b o hb => h.frozen (by exact hb)
theorem below_two {w x y : World} (h : Below w.heap.size w x) (k : Below x.heap.size x y) : Below w.heap.size w y := h.trans (k.mono h.size)
theorem start2 {w w' : World} {A B : Obj} (h : Below ((w.alloc A).alloc B).heap.size ((w.alloc A).alloc B) w') : Below w.heap.size w w' := below_two (by go_grown) h
theorem size2b {w w' : World} {A B : Obj} (h : Below ((w.alloc A).alloc B).heap.size ((w.alloc A).alloc B) w') : w.heap.size + 1 < w'.heap.size := by
  have := h.size
  simp at this
  omega
theorem start1 {w w' : World} {A : Obj} (h : Below (w.alloc A).heap.size (w.alloc A) w') : Below w.heap.size w w' := below_two (by go_grown) h
end Go.Proofs.Ytoeiheccmpjclaf
namespace Go.Proofs.Ytoeiheccmpjclaf
open Go.ChangeShapes Go.WideShapes Go.ChangeAt Go.RowKit
set_option maxRecDepth 100000
set_option linter.unusedVariables false

def winB (x : Int) : Bool := decide (0 ≤ x) && decide (x ≤ 1000000000)
def segB (x : Int) : Bool := decide (1 ≤ x) && decide (x ≤ 1500)
def lvlB (u l : Int) : Bool := decide (0 ≤ l) && decide (l ≤ 1000000000 * u)
def bokB (r u l t : Int) : Bool := ((rateB r && winB u) && lvlB u l) && timeB t
theorem win_num {x : Int} (h : winB x = true) : 0 ≤ x ∧ x ≤ 1000000000 := by simpa [winB] using h
theorem seg_num {x : Int} (h : segB x = true) : 1 ≤ x ∧ x ≤ 1500 := by simpa [segB] using h
theorem lvl_num {u l : Int} (h : lvlB u l = true) : 0 ≤ l ∧ l ≤ 1000000000 * u := by simpa [lvlB] using h
theorem tim_num {x : Int} (h : timeB x = true) : 0 ≤ x ∧ x ≤ 1000000000000000 := by simpa [timeB] using h
theorem rat_num {x : Int} (h : rateB x = true) : 0 ≤ x ∧ x ≤ 1000000000000 := by simpa [rateB] using h
theorem bok_num {r u l t : Int} (h : bokB r u l t = true) : (0 ≤ r ∧ r ≤ 1000000000000) ∧ (0 ≤ u ∧ u ≤ 1000000000) ∧ (0 ≤ l ∧ l ≤ 1000000000 * u) ∧ (0 ≤ t ∧ t ≤ 1000000000000000) := by
  unfold bokB at h
  rw [Bool.and_eq_true, Bool.and_eq_true, Bool.and_eq_true] at h
  exact ⟨rat_num h.1.1.1, win_num h.1.1.2, lvl_num h.1.2, tim_num h.2⟩
theorem window_any (x : Int) (w : World) : Calls Try.prog 58 #[.int .i64 x] w fun e w' => e = .returned (.bool (winB x)) ∧ w' = w := by
  go_enter Try.func58, Try.ntmps58
  go_wp2_with (first | (go_at_call 50; refine (in_any _ _ _ _).mono ?_; rintro e w2 ⟨rfl, rfl⟩))
  go_ret
  exact ⟨rfl, rfl⟩
theorem seg_any (x : Int) (w : World) : Calls Try.prog 79 #[.int .i64 x] w fun e w' => e = .returned (.bool (segB x)) ∧ w' = w := by
  go_enter Try.func79, Try.ntmps79
  go_wp2_with (first | (go_at_call 50; refine (in_any _ _ _ _).mono ?_; rintro e w2 ⟨rfl, rfl⟩))
  go_ret
  exact ⟨rfl, rfl⟩
theorem min_any (x y : Int) (w : World) : Calls Try.prog 69 #[.int .i64 x, .int .i64 y] w fun e w' => e = .returned (.int .i64 (min x y)) ∧ w' = w := by
  by_cases h : x < y
  · rw [Int.min_eq_left (by omega)]
    go_enter Try.func69, Try.ntmps69
    go_wp2
    go_ret
    exact ⟨rfl, rfl⟩
  · rw [Int.min_eq_right (by omega)]
    go_enter Try.func69, Try.ntmps69
    go_wp2
    go_ret
    exact ⟨rfl, rfl⟩
/-- A bucket as a value. -/
abbrev bkV (a : Int × Int × Int × Int) : Value := .agg #[.int .i64 a.1, .int .i64 a.2.1, .int .i64 a.2.2.1, .int .i64 a.2.2.2]
def fullOk (r u t : Int) : Bool := (rateB r && winB u) && timeB t
def fullOf (r u t : Int) : Int × Int × Int × Int := if fullOk r u t = true then (r, u, 1000000000 * u, t) else (0, 0, 0, 0)
end Go.Proofs.Ytoeiheccmpjclaf

/- What spec's Measure, Wait and Expire answer. -/
import Derived.Test.YtohenfogiegkmaoTrip
import Derived.Deep.RegionHeld3
import Derived.BigQuiet
import Derived.WalkSmall
namespace Go.Proofs.Ytohenfogiegkmao
open Go.ChangeShapes Go.WideShapes Go.ChangeAt Go.RowKit
set_option maxRecDepth 100000
set_option linter.unusedVariables false

def measB (k : Bool) (s v b ns : Int) : Bool := tokB k s v b && timeB ns
def measIn (k : Bool) (s v ns : Int) : Bool × Int × Int × Int := if k = true then (true, (7 * s + ns) / 8, (3 * v + absOf (s - ns)) / 4, 0) else (true, ns, ns / 2, 0)
def measOf (k : Bool) (s v b ns : Int) : Bool × Int × Int × Int := if measB k s v b ns = true then measIn k s v ns else (false, 0, 0, 0)
theorem meas_num {k : Bool} {s v b ns : Int} (h : measB k s v b ns = true) : tokB k s v b = true ∧ timeB ns = true ∧ (0 ≤ s ∧ s ≤ 1000000000000000) ∧ (0 ≤ v ∧ v ≤ 1000000000000000) ∧ (0 ≤ ns ∧ ns ≤ 1000000000000000) := by
  unfold measB at h
  rw [Bool.and_eq_true] at h
  have h2 := tok_num h.1
  have h3 := h.2
  unfold timeB at h3
  simp only [Bool.and_eq_true, decide_eq_true_eq] at h3
  exact ⟨h.1, h.2, h2.1, h2.2.1, h3⟩
theorem tdivT {x : Int} (h : 0 ≤ x) (k : Int) : x.tdiv k = x / k := Int.tdiv_eq_ediv_of_nonneg h
theorem absOf_bd {x : Int} (h0 : -1000000000000000 ≤ x) (h1 : x ≤ 1000000000000000) : 0 ≤ absOf x ∧ absOf x ≤ 1000000000000000 := by unfold absOf; split <;> omega

def dblT (x : Int) (j : Nat) : Int := x * 2 ^ j
theorem dbl_zero (x : Int) : dblT x 0 = x := by unfold dblT; rw [Int.pow_zero, Int.mul_one]
theorem dbl_succ (x : Int) (j : Nat) : dblT x (j + 1) = 2 * dblT x j := by unfold dblT; rw [Int.pow_succ, ← Int.mul_assoc]; omega
theorem dbl_bd {x : Int} (h0 : 0 ≤ x) (h1 : x ≤ 5000000000000000) : ∀ j : Nat, j ≤ 10 → 0 ≤ dblT x j ∧ dblT x j ≤ 5120000000000000000 := by
  intro j hj
  have key : ∀ j : Nat, 0 ≤ dblT x j ∧ dblT x j ≤ 5000000000000000 * 2 ^ j := by
    intro j
    induction j with
    | zero => rw [dbl_zero]; exact ⟨h0, by rw [Int.pow_zero]; omega⟩
    | succ j ih => rw [dbl_succ, Int.pow_succ]; omega
  have h2 : (2 : Int) ^ j ≤ 1024 := by
    have : (2 : Nat) ^ j ≤ 2 ^ 10 := Nat.pow_le_pow_right (by decide) hj
    have h3 : ((2 ^ j : Nat) : Int) ≤ 1024 := by omega
    rwa [Int.natCast_pow] at h3
  have := key j
  omega
def baseT (k : Bool) (s v : Int) : Int := if k = true then max 200000000 (s + max (4 * v) 1000000) else 1000000000
theorem base_bd {k : Bool} {s v : Int} (hs : 0 ≤ s ∧ s ≤ 1000000000000000) (hv : 0 ≤ v ∧ v ≤ 1000000000000000) : 0 ≤ baseT k s v ∧ baseT k s v ≤ 5000000000000000 := by
  unfold baseT; split <;> omega
def waitOf9 (k : Bool) (s v b : Int) : Int := if tokB k s v b = true then min 60000000000 (dblT (baseT k s v) b.toNat) else -1
def expOf (k : Bool) (s v b : Int) : Bool × Int × Int × Int := if tokB k s v b = true then (k, s, v, min 10 (b + 1)) else (false, 0, 0, 0)
set_option maxHeartbeats 2000000 in
theorem specExpire_no (k : Bool) (s v b : Int) (w : World) (h1 : tokB k s v b = false) : Calls Try.prog 8 #[.agg #[.bool k, .int .i64 s, .int .i64 v, .int .i64 b]] w fun e w' => e = .returned (trV (false, 0, 0, 0)) ∧ Below w.heap.size w w' := by
  go_enter Try.func8, Try.ntmps8
  go_wp2_with (first | (go_at_call 22; refine (specTripOk_is h1 _).mono ?_; rintro e w2 ⟨rfl, hb2⟩; have kc := below_cells4 hb2; have kf := below_frozens4 hb2; have hbw := start2 hb2; have zb := size2b hb2))
  obtain ⟨w9, e9, c0, c1, c2, c3, far, fz, sz, hbel⟩ := over4 (.bool false) (.int .i64 0) (.int .i64 0) (.int .i64 0) (w := w2) (g := w.heap.size + 1) (u0 := .bool false) (u1 := .int .i64 0) (u2 := .int .i64 0) (u3 := .int .i64 0) (by go_simp) (by go_simp) (by go_simp) (by go_simp)
  rw [← e9]
  refine bodyPost_ret (results_one rfl _ _ _ [.bool false, .int .i64 0, .int .i64 0, .int .i64 0] rfl (cells_four c0 c1 c2 c3) Try.underlying24 rfl (by kernel_rfl)) rfl ?_
  exact ⟨rfl, hbw.trans (hbel _ (by omega))⟩
set_option maxHeartbeats 2000000 in
theorem specExpire_yes (k : Bool) (s v b : Int) (w : World) (h1 : tokB k s v b = true) : Calls Try.prog 8 #[.agg #[.bool k, .int .i64 s, .int .i64 v, .int .i64 b]] w fun e w' => e = .returned (trV (k, s, v, min 10 (b + 1))) ∧ Below w.heap.size w w' := by
  obtain ⟨⟨s0, s1⟩, ⟨v0, v1⟩, m0, m1⟩ := tok_num h1
  have r1 : IntKind.i64.wrap (b + 1) = b + 1 := by rw [IntKind.wrap_i64]; omega
  go_enter Try.func8, Try.ntmps8
  go_wp2_with (first
    | (go_at_call 22; refine (specTripOk_is h1 _).mono ?_; rintro e w2 ⟨rfl, hb2⟩; have kc := below_cells4 hb2; have kf := below_frozens4 hb2; have hbw := start2 hb2; have zb := size2b hb2)
    | (go_at_call 23; refine (minT_any _ _ _).mono ?_; rintro e w3 ⟨rfl, rfl⟩; have p3 : w3.cell? ⟨w.heap.size, 3, none⟩ = some (.int .i64 b) := (by go_simp); have ps := set_same4 (.int .i64 (min 10 (b + 1))) p3))
  obtain ⟨w9, e9, c0, c1, c2, c3, far, fz, sz, hbel⟩ := over4 (.bool k) (.int .i64 s) (.int .i64 v) (.int .i64 (min 10 (b + 1))) (w := w3.setCell ⟨w.heap.size, 3, none⟩ (.int .i64 (min 10 (b + 1)))) (g := w.heap.size + 1) (u0 := .bool false) (u1 := .int .i64 0) (u2 := .int .i64 0) (u3 := .int .i64 0) (by go_simp) (by go_simp) (by go_simp) (by go_simp)
  rw [← e9]
  refine bodyPost_ret (results_one rfl _ _ _ [.bool k, .int .i64 s, .int .i64 v, .int .i64 (min 10 (b + 1))] rfl (cells_four c0 c1 c2 c3) Try.underlying24 rfl (by kernel_rfl)) rfl ?_
  exact ⟨rfl, (hbw.setCell (by exact Nat.le_refl _) _).trans (hbel _ (by omega))⟩
theorem specExpire_any (k : Bool) (s v b : Int) (w : World) : Calls Try.prog 8 #[.agg #[.bool k, .int .i64 s, .int .i64 v, .int .i64 b]] w fun e w' => e = .returned (trV (expOf k s v b)) ∧ Below w.heap.size w w' := by
  cases h : tokB k s v b
  · rw [show expOf k s v b = (false, 0, 0, 0) from if_neg (by rw [h]; decide)]
    exact specExpire_no k s v b w h
  · rw [show expOf k s v b = (k, s, v, min 10 (b + 1)) from if_pos h]
    exact specExpire_yes k s v b w h
end Go.Proofs.Ytohenfogiegkmao

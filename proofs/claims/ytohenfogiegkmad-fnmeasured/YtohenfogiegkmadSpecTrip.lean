/- What spec's Measure, Wait and Expire answer. -/
import Derived.Test.YtohenfogiegkmadTrip
import Derived.Deep.RegionHeld3
import Derived.BigQuiet
import Derived.WalkSmall
namespace Go.Proofs.Ytohenfogiegkmad
open Go.ChangeShapes Go.WideShapes Go.ChangeAt Go.RowKit
set_option maxRecDepth 100000
set_option linter.unusedVariables false

def measB (k : Bool) (s v b ns : Int) : Bool := tokB k s v b && timeB ns
def measIn (k : Bool) (s v ns : Int) : Bool × Int × Int × Int := if k = true then (true, (7 * s + ns) / 8, (3 * v + absOf (s - ns)) / 4, 0) else (true, ns, ns / 2, 0)
def measOf (k : Bool) (s v b ns : Int) : Bool × Int × Int × Int := if measB k s v b ns = true then measIn k s v ns else (false, 0, 0, 0)
theorem meas_num {k : Bool} {s v b ns : Int} (h : measB k s v b ns = true) : tokB k s v b = true ∧ timeB ns = true ∧ (0 ≤ s ∧ s ≤ 1000000000000000) ∧ (0 ≤ v ∧ v ≤ 1000000000000000) ∧ (0 ≤ ns ∧ ns ≤ 1000000000000000) := by
  unfold measB at h
  rw [Bool.and_eq_true] at h
  have h2 := tok_num h.1
  have h3 := h.2
  unfold timeB at h3
  simp only [Bool.and_eq_true, decide_eq_true_eq] at h3
  exact ⟨h.1, h.2, h2.1, h2.2.1, h3⟩
theorem tdivT {x : Int} (h : 0 ≤ x) (k : Int) : x.tdiv k = x / k := Int.tdiv_eq_ediv_of_nonneg h
theorem absOf_bd {x : Int} (h0 : -1000000000000000 ≤ x) (h1 : x ≤ 1000000000000000) : 0 ≤ absOf x ∧ absOf x ≤ 1000000000000000 := by unfold absOf; split <;> omega

set_option maxHeartbeats 2000000 in
theorem specMeasure_no (k : Bool) (s v b ns : Int) (w : World) (hm : measB k s v b ns = false) : Calls Try.prog 39 #[.agg #[.bool k, .int .i64 s, .int .i64 v, .int .i64 b], .int .i64 ns] w fun e w' => e = .returned (trV (false, 0, 0, 0)) ∧ Below w.heap.size w w' := by
  cases h1 : tokB k s v b
  · clear hm
    go_enter Try.func39, Try.ntmps39
    go_wp2_with (first | (go_at_call 44; refine (specTripOk_is h1 _).mono ?_; rintro e w2 ⟨rfl, hb2⟩; have kc := below_cells4 hb2; have kf := below_frozens4 hb2; have hbw := start2 hb2; have zb := size2b hb2))
    obtain ⟨w9, e9, c0, c1, c2, c3, far, fz, sz, hbel⟩ := over4 (.bool false) (.int .i64 0) (.int .i64 0) (.int .i64 0) (w := w2) (g := w.heap.size + 1) (u0 := .bool false) (u1 := .int .i64 0) (u2 := .int .i64 0) (u3 := .int .i64 0) (by go_simp) (by go_simp) (by go_simp) (by go_simp)
    rw [← e9]
    refine bodyPost_ret (results_one rfl _ _ _ [.bool false, .int .i64 0, .int .i64 0, .int .i64 0] rfl (cells_four c0 c1 c2 c3) Try.underlying67 rfl (by kernel_rfl)) rfl ?_
    exact ⟨rfl, hbw.trans (hbel _ (by omega))⟩
  · have h2 : timeB ns = false := by unfold measB at hm; rw [h1] at hm; exact hm
    clear hm
    go_enter Try.func39, Try.ntmps39
    go_wp2_with (first
      | (go_at_call 44; refine (specTripOk_is h1 _).mono ?_; rintro e w2 ⟨rfl, hb2⟩; have kc := below_cells4 hb2; have kf := below_frozens4 hb2; have hbw := start2 hb2; have zb := size2b hb2)
      | (go_at_call 59; refine (time_any _ _).mono ?_; rintro e w3 ⟨rfl, rfl⟩; rw [h2]))
    obtain ⟨w9, e9, c0, c1, c2, c3, far, fz, sz, hbel⟩ := over4 (.bool false) (.int .i64 0) (.int .i64 0) (.int .i64 0) (w := w3) (g := w.heap.size + 1) (u0 := .bool false) (u1 := .int .i64 0) (u2 := .int .i64 0) (u3 := .int .i64 0) (by go_simp) (by go_simp) (by go_simp) (by go_simp)
    rw [← e9]
    refine bodyPost_ret (results_one rfl _ _ _ [.bool false, .int .i64 0, .int .i64 0, .int .i64 0] rfl (cells_four c0 c1 c2 c3) Try.underlying67 rfl (by kernel_rfl)) rfl ?_
    exact ⟨rfl, hbw.trans (hbel _ (by omega))⟩
set_option maxHeartbeats 2000000 in
theorem specMeasure_new (s v b ns : Int) (w : World) (hm : measB false s v b ns = true) : Calls Try.prog 39 #[.agg #[.bool false, .int .i64 s, .int .i64 v, .int .i64 b], .int .i64 ns] w fun e w' => e = .returned (trV (true, ns, ns / 2, 0)) ∧ Below w.heap.size w w' := by
  obtain ⟨h1, h2, ⟨s0, s1⟩, ⟨v0, v1⟩, n0, n1⟩ := meas_num hm
  clear hm
  have ed := tdivT n0 2
  go_enter Try.func39, Try.ntmps39
  go_wp2_with (first
    | (go_at_call 44; refine (specTripOk_is h1 _).mono ?_; rintro e w2 ⟨rfl, hb2⟩; have kc := below_cells4 hb2; have kf := below_frozens4 hb2; have hbw := start2 hb2; have zb := size2b hb2)
    | (go_at_call 59; refine (time_any _ _).mono ?_; rintro e w3 ⟨rfl, rfl⟩; rw [h2]))
  obtain ⟨w9, e9, c0, c1, c2, c3, far, fz, sz, hbel⟩ := over4 (.bool true) (.int .i64 ns) (.int .i64 (ns / 2)) (.int .i64 0) (w := w3) (g := w.heap.size + 1) (u0 := .bool false) (u1 := .int .i64 0) (u2 := .int .i64 0) (u3 := .int .i64 0) (by go_simp) (by go_simp) (by go_simp) (by go_simp)
  rw [← e9]
  refine bodyPost_ret (results_one rfl _ _ _ [.bool true, .int .i64 ns, .int .i64 (ns / 2), .int .i64 0] rfl (cells_four c0 c1 c2 c3) Try.underlying67 rfl (by kernel_rfl)) rfl ?_
  exact ⟨rfl, hbw.trans (hbel _ (by omega))⟩
set_option maxHeartbeats 4000000 in
theorem specMeasure_old (s v b ns : Int) (w : World) (hm : measB true s v b ns = true) : Calls Try.prog 39 #[.agg #[.bool true, .int .i64 s, .int .i64 v, .int .i64 b], .int .i64 ns] w fun e w' => e = .returned (trV (true, (7 * s + ns) / 8, (3 * v + absOf (s - ns)) / 4, 0)) ∧ Below w.heap.size w w' := by
  obtain ⟨h1, h2, ⟨s0, s1⟩, ⟨v0, v1⟩, n0, n1⟩ := meas_num hm
  clear hm
  have ed := tdivT (x := 7 * s + ns) (by omega) 8
  have a0 : -1000000000000000 ≤ s - ns := by omega
  have a1 : s - ns ≤ 1000000000000000 := by omega
  obtain ⟨b0, b1⟩ := absOf_bd a0 a1
  have ee := tdivT (x := 3 * v + absOf (s - ns)) (by omega) 4
  have r1 : IntKind.i64.wrap (7 * s) = 7 * s := by rw [IntKind.wrap_i64]; omega
  have r2 : IntKind.i64.wrap (7 * s + ns) = 7 * s + ns := by rw [IntKind.wrap_i64]; omega
  have r3 : IntKind.i64.wrap ((7 * s + ns) / 8) = (7 * s + ns) / 8 := by rw [IntKind.wrap_i64]; omega
  have r4 : IntKind.i64.wrap (3 * v) = 3 * v := by rw [IntKind.wrap_i64]; omega
  have r5 : IntKind.i64.wrap (s - ns) = s - ns := by rw [IntKind.wrap_i64]; omega
  have r6 : IntKind.i64.wrap (3 * v + absOf (s - ns)) = 3 * v + absOf (s - ns) := by rw [IntKind.wrap_i64]; omega
  have r7 : IntKind.i64.wrap ((3 * v + absOf (s - ns)) / 4) = (3 * v + absOf (s - ns)) / 4 := by rw [IntKind.wrap_i64]; omega
  go_enter Try.func39, Try.ntmps39
  go_wp2_with (first
    | (go_at_call 44; refine (specTripOk_is h1 _).mono ?_; rintro e w2 ⟨rfl, hb2⟩; have kc := below_cells4 hb2; have kf := below_frozens4 hb2; have hbw := start2 hb2; have zb := size2b hb2)
    | (go_at_call 59; refine (time_any _ _).mono ?_; rintro e w3 ⟨rfl, rfl⟩; rw [h2]))
  have q1 : w3.cell? ⟨w.heap.size, 1, none⟩ = some (.int .i64 s) := by go_simp
  have q2 : w3.cell? ⟨w.heap.size, 2, none⟩ = some (.int .i64 v) := by go_simp
  go_region_held3 (fun w' => w'.cell? ⟨w.heap.size, 1, none⟩ = some (.int .i64 s) ∧ w'.cell? ⟨w.heap.size, 2, none⟩ = some (.int .i64 v)) (go_keep) (first | (go_at_call 93; (try rw [r5]); refine (absT_any _ _ a0 a1).mono ?_; rintro e w4 ⟨rfl, rfl⟩))
  go_wp2
  obtain ⟨w9, e9, c0, c1, c2, c3, far, fz, sz, hbel⟩ := over4 (.bool true) (.int .i64 ((7 * s + ns) / 8)) (.int .i64 ((3 * v + absOf (s - ns)) / 4)) (.int .i64 0) (w := w3) (g := w.heap.size + 1) (u0 := .bool false) (u1 := .int .i64 0) (u2 := .int .i64 0) (u3 := .int .i64 0) (by go_simp) (by go_simp) (by go_simp) (by go_simp)
  rw [← e9]
  refine bodyPost_ret (results_one rfl _ _ _ [.bool true, .int .i64 ((7 * s + ns) / 8), .int .i64 ((3 * v + absOf (s - ns)) / 4), .int .i64 0] rfl (cells_four (by rw [World.cell?_drew]; exact c0) (by rw [World.cell?_drew]; exact c1) (by rw [World.cell?_drew]; exact c2) (by rw [World.cell?_drew]; exact c3)) Try.underlying67 rfl (by kernel_rfl)) rfl ?_
  exact ⟨rfl, (hbw.trans (hbel _ (by omega))).trans (by go_grown)⟩
theorem specMeasure_any (k : Bool) (s v b ns : Int) (w : World) : Calls Try.prog 39 #[.agg #[.bool k, .int .i64 s, .int .i64 v, .int .i64 b], .int .i64 ns] w fun e w' => e = .returned (trV (measOf k s v b ns)) ∧ Below w.heap.size w w' := by
  cases hm : measB k s v b ns
  · rw [show measOf k s v b ns = (false, 0, 0, 0) from if_neg (by rw [hm]; decide)]
    exact specMeasure_no k s v b ns w hm
  · rw [show measOf k s v b ns = measIn k s v ns from if_pos hm]
    cases k
    · exact specMeasure_new s v b ns w hm
    · exact specMeasure_old s v b ns w hm
/-! Waits -/
def dblT (x : Int) (j : Nat) : Int := x * 2 ^ j
theorem dbl_zero (x : Int) : dblT x 0 = x := by unfold dblT; rw [Int.pow_zero, Int.mul_one]
theorem dbl_succ (x : Int) (j : Nat) : dblT x (j + 1) = 2 * dblT x j := by unfold dblT; rw [Int.pow_succ, ← Int.mul_assoc]; omega
theorem dbl_bd {x : Int} (h0 : 0 ≤ x) (h1 : x ≤ 5000000000000000) : ∀ j : Nat, j ≤ 10 → 0 ≤ dblT x j ∧ dblT x j ≤ 5120000000000000000 := by
  intro j hj
  have key : ∀ j : Nat, 0 ≤ dblT x j ∧ dblT x j ≤ 5000000000000000 * 2 ^ j := by
    intro j
    induction j with
    | zero => rw [dbl_zero]; exact ⟨h0, by rw [Int.pow_zero]; omega⟩
    | succ j ih => rw [dbl_succ, Int.pow_succ]; omega
  have h2 : (2 : Int) ^ j ≤ 1024 := by
    have : (2 : Nat) ^ j ≤ 2 ^ 10 := Nat.pow_le_pow_right (by decide) hj
    have h3 : ((2 ^ j : Nat) : Int) ≤ 1024 := by omega
    rwa [Int.natCast_pow] at h3
  have := key j
  omega
def baseT (k : Bool) (s v : Int) : Int := if k = true then max 200000000 (s + max (4 * v) 1000000) else 1000000000
theorem base_bd {k : Bool} {s v : Int} (hs : 0 ≤ s ∧ s ≤ 1000000000000000) (hv : 0 ≤ v ∧ v ≤ 1000000000000000) : 0 ≤ baseT k s v ∧ baseT k s v ≤ 5000000000000000 := by
  unfold baseT; split <;> omega
def waitOf9 (k : Bool) (s v b : Int) : Int := if tokB k s v b = true then min 60000000000 (dblT (baseT k s v) b.toNat) else -1
set_option maxHeartbeats 2000000 in
theorem specWait_no (k : Bool) (s v b : Int) (w : World) (h1 : tokB k s v b = false) : Calls Try.prog 41 #[.agg #[.bool k, .int .i64 s, .int .i64 v, .int .i64 b]] w fun e w' => e = .returned (.int .i64 (-1)) ∧ Below w.heap.size w w' := by
  go_enter Try.func41, Try.ntmps41
  go_wp2_with (first | (go_at_call 44; refine (specTripOk_is h1 _).mono ?_; rintro e w2 ⟨rfl, hb2⟩; have hbw := start1 hb2))
  go_ret
  exact ⟨rfl, hbw⟩
set_option maxHeartbeats 2000000 in
theorem specWait_yes (k : Bool) (s v : Int) (m : Nat) (w : World) (h1 : tokB k s v (m : Int) = true) : Calls Try.prog 41 #[.agg #[.bool k, .int .i64 s, .int .i64 v, .int .i64 (m : Int)]] w fun e w' => e = .returned (.int .i64 (min 60000000000 (dblT (baseT k s v) m))) ∧ Below w.heap.size w w' := by
  obtain ⟨⟨s0, s1⟩, ⟨v0, v1⟩, m0, m1⟩ := tok_num h1
  have HB := dbl_bd (base_bd (k := k) ⟨s0, s1⟩ ⟨v0, v1⟩).1 (base_bd (k := k) ⟨s0, s1⟩ ⟨v0, v1⟩).2
  have HB' : Hid (∀ j : Nat, j ≤ 10 → 0 ≤ dblT (baseT k s v) j ∧ dblT (baseT k s v) j ≤ 5120000000000000000) := HB
  clear HB
  have rest : ∀ (wq : World) (d : Int), w.heap.size < wq.heap.size → True := fun _ _ _ => trivial
  cases k
  · have HX : Hid (baseT false s v = 1000000000) := rfl
    obtain ⟨X, hX⟩ : ∃ X, baseT false s v = X := ⟨_, rfl⟩
    rw [hX] at HB' HX ⊢
    clear hX
    go_enter Try.func41, Try.ntmps41
    go_wp2_with (first | (go_at_call 44; refine (specTripOk_is h1 _).mono ?_; rintro e w2 ⟨rfl, hb2⟩; have hbw := start1 hb2; have kc := below_cells4 hb2; have kf := below_frozens4 hb2))
    have q3 : w2.cell? ⟨w.heap.size, 3, none⟩ = some (.int .i64 (m : Int)) := by go_simp
    clear kc kf
    go_loop [3, 4] (fun n i => ∃ j : Nat, i = .int .i64 j ∧ j ≤ m ∧ n = .int .i64 (dblT X j)) (fun _ i => m - (intOf i).toNat)
    case atStart => exact ⟨0, rfl, by omega, by rw [dbl_zero, HX.out]⟩
    case round =>
      obtain ⟨j, rfl, hj, rfl⟩ := hrel
      by_cases hlt : j < m
      · have hlt' : (j : Int) < (m : Int) := by omega
        obtain ⟨d0, d1⟩ := HB'.out (j + 1) (by omega)
        have HS : Hid (dblT X (j + 1) = 2 * dblT X j) := dbl_succ X j
        rw [HS.out] at d0 d1
        go_wp2
        go_round
        case rel => exact ⟨j + 1, by go_num, by omega, by rw [HS.out]⟩
        case measure => first | (simp [intOf]; done) | (simp [intOf]; omega)
      · obtain rfl : j = m := by omega
        go_wp2_with (first | (go_at_call 96; refine (minT_any _ _ _).mono ?_; rintro e w4 ⟨rfl, rfl⟩))
        go_ret
        exact ⟨rfl, hbw⟩
  · have HX : Hid (baseT true s v = max 200000000 (s + max (4 * v) 1000000)) := rfl
    obtain ⟨X, hX⟩ : ∃ X, baseT true s v = X := ⟨_, rfl⟩
    rw [hX] at HB' HX ⊢
    clear hX
    have r1 : IntKind.i64.wrap (4 * v) = 4 * v := by rw [IntKind.wrap_i64]; omega
    have r2 : IntKind.i64.wrap (s + max (4 * v) 1000000) = s + max (4 * v) 1000000 := by rw [IntKind.wrap_i64]; omega
    go_enter Try.func41, Try.ntmps41
    go_wp2_with (first | (go_at_call 44; refine (specTripOk_is h1 _).mono ?_; rintro e w2 ⟨rfl, hb2⟩; have hbw := start1 hb2; have kc := below_cells4 hb2; have kf := below_frozens4 hb2))
    have q1 : w2.cell? ⟨w.heap.size, 1, none⟩ = some (.int .i64 s) := by go_simp
    have q2 : w2.cell? ⟨w.heap.size, 2, none⟩ = some (.int .i64 v) := by go_simp
    have q3 : w2.cell? ⟨w.heap.size, 3, none⟩ = some (.int .i64 (m : Int)) := by go_simp
    clear kc kf
    go_quiet (first | (go_at_call 95; exact Calls.quiet_of_same (maxT_any _ _ _)))
    go_wp2
    go_loop [3, 4] (fun n i => ∃ j : Nat, i = .int .i64 j ∧ j ≤ m ∧ n = .int .i64 (dblT X j)) (fun _ i => m - (intOf i).toNat)
    case atStart => exact ⟨0, rfl, by omega, by rw [dbl_zero, HX.out]⟩
    case round =>
      obtain ⟨j, rfl, hj, rfl⟩ := hrel
      by_cases hlt : j < m
      · have hlt' : (j : Int) < (m : Int) := by omega
        obtain ⟨d0, d1⟩ := HB'.out (j + 1) (by omega)
        have HS : Hid (dblT X (j + 1) = 2 * dblT X j) := dbl_succ X j
        rw [HS.out] at d0 d1
        go_wp2
        go_round
        case rel => exact ⟨j + 1, by go_num, by omega, by rw [HS.out]⟩
        case measure => first | (simp [intOf]; done) | (simp [intOf]; omega)
      · obtain rfl : j = m := by omega
        go_wp2_with (first | (go_at_call 96; refine (minT_any _ _ _).mono ?_; rintro e w4 ⟨rfl, rfl⟩))
        go_ret
        exact ⟨rfl, below_drewN hbw _⟩
theorem specWait_any (k : Bool) (s v b : Int) (w : World) : Calls Try.prog 41 #[.agg #[.bool k, .int .i64 s, .int .i64 v, .int .i64 b]] w fun e w' => e = .returned (.int .i64 (waitOf9 k s v b)) ∧ Below w.heap.size w w' := by
  cases h : tokB k s v b
  · rw [show waitOf9 k s v b = -1 from if_neg (by rw [h]; decide)]
    exact specWait_no k s v b w h
  · rw [show waitOf9 k s v b = min 60000000000 (dblT (baseT k s v) b.toNat) from if_pos h]
    obtain ⟨m, rfl⟩ : ∃ m : Nat, b = m := ⟨b.toNat, by have := tok_num h; omega⟩
    rw [Int.toNat_natCast]
    exact specWait_yes k s v m w h
/-! Expire -/
def expOf (k : Bool) (s v b : Int) : Bool × Int × Int × Int := if tokB k s v b = true then (k, s, v, min 10 (b + 1)) else (false, 0, 0, 0)
set_option maxHeartbeats 2000000 in
theorem specExpire_no (k : Bool) (s v b : Int) (w : World) (h1 : tokB k s v b = false) : Calls Try.prog 43 #[.agg #[.bool k, .int .i64 s, .int .i64 v, .int .i64 b]] w fun e w' => e = .returned (trV (false, 0, 0, 0)) ∧ Below w.heap.size w w' := by
  go_enter Try.func43, Try.ntmps43
  go_wp2_with (first | (go_at_call 44; refine (specTripOk_is h1 _).mono ?_; rintro e w2 ⟨rfl, hb2⟩; have kc := below_cells4 hb2; have kf := below_frozens4 hb2; have hbw := start2 hb2; have zb := size2b hb2))
  obtain ⟨w9, e9, c0, c1, c2, c3, far, fz, sz, hbel⟩ := over4 (.bool false) (.int .i64 0) (.int .i64 0) (.int .i64 0) (w := w2) (g := w.heap.size + 1) (u0 := .bool false) (u1 := .int .i64 0) (u2 := .int .i64 0) (u3 := .int .i64 0) (by go_simp) (by go_simp) (by go_simp) (by go_simp)
  rw [← e9]
  refine bodyPost_ret (results_one rfl _ _ _ [.bool false, .int .i64 0, .int .i64 0, .int .i64 0] rfl (cells_four c0 c1 c2 c3) Try.underlying67 rfl (by kernel_rfl)) rfl ?_
  exact ⟨rfl, hbw.trans (hbel _ (by omega))⟩
set_option maxHeartbeats 2000000 in
theorem specExpire_yes (k : Bool) (s v b : Int) (w : World) (h1 : tokB k s v b = true) : Calls Try.prog 43 #[.agg #[.bool k, .int .i64 s, .int .i64 v, .int .i64 b]] w fun e w' => e = .returned (trV (k, s, v, min 10 (b + 1))) ∧ Below w.heap.size w w' := by
  obtain ⟨⟨s0, s1⟩, ⟨v0, v1⟩, m0, m1⟩ := tok_num h1
  have r1 : IntKind.i64.wrap (b + 1) = b + 1 := by rw [IntKind.wrap_i64]; omega
  go_enter Try.func43, Try.ntmps43
  go_wp2_with (first
    | (go_at_call 44; refine (specTripOk_is h1 _).mono ?_; rintro e w2 ⟨rfl, hb2⟩; have kc := below_cells4 hb2; have kf := below_frozens4 hb2; have hbw := start2 hb2; have zb := size2b hb2)
    | (go_at_call 96; refine (minT_any _ _ _).mono ?_; rintro e w3 ⟨rfl, rfl⟩; have p3 : w3.cell? ⟨w.heap.size, 3, none⟩ = some (.int .i64 b) := (by go_simp); have ps := set_same4 (.int .i64 (min 10 (b + 1))) p3))
  obtain ⟨w9, e9, c0, c1, c2, c3, far, fz, sz, hbel⟩ := over4 (.bool k) (.int .i64 s) (.int .i64 v) (.int .i64 (min 10 (b + 1))) (w := w3.setCell ⟨w.heap.size, 3, none⟩ (.int .i64 (min 10 (b + 1)))) (g := w.heap.size + 1) (u0 := .bool false) (u1 := .int .i64 0) (u2 := .int .i64 0) (u3 := .int .i64 0) (by go_simp) (by go_simp) (by go_simp) (by go_simp)
  rw [← e9]
  refine bodyPost_ret (results_one rfl _ _ _ [.bool k, .int .i64 s, .int .i64 v, .int .i64 (min 10 (b + 1))] rfl (cells_four c0 c1 c2 c3) Try.underlying67 rfl (by kernel_rfl)) rfl ?_
  exact ⟨rfl, (hbw.setCell (by exact Nat.le_refl _) _).trans (hbel _ (by omega))⟩
theorem specExpire_any (k : Bool) (s v b : Int) (w : World) : Calls Try.prog 43 #[.agg #[.bool k, .int .i64 s, .int .i64 v, .int .i64 b]] w fun e w' => e = .returned (trV (expOf k s v b)) ∧ Below w.heap.size w w' := by
  cases h : tokB k s v b
  · rw [show expOf k s v b = (false, 0, 0, 0) from if_neg (by rw [h]; decide)]
    exact specExpire_no k s v b w h
  · rw [show expOf k s v b = (k, s, v, min 10 (b + 1)) from if_pos h]
    exact specExpire_yes k s v b w h
end Go.Proofs.Ytohenfogiegkmad

/- What spec's buckets answer: Take, When, Reset. -/
import Derived.Test.YtohenfogiegkmabSpecBuck3
import Derived.Deep.DeepCutAuto
namespace Go.Proofs.Ytohenfogiegkmab
open Go.ChangeShapes Go.WideShapes Go.ChangeAt Go.RowKit
set_option maxRecDepth 100000
set_option linter.unusedVariables false

theorem size1b {w w' : World} {A : Obj} (h : Below (w.alloc A).heap.size (w.alloc A) w') : w.heap.size < w'.heap.size := by
  have := h.size
  simp at this
  omega
def takeOk (r u l t now n : Int) : Bool := (bokB r u l t && timeB now) && segB n
def takeF (r u l t now n : Int) : Bool := takeOk r u l t now n && decide (1000000000 * n ≤ fillL r u l t now)
def takeOf (r u l t now n : Int) : Int × Int × Int × Int := if takeOk r u l t now n = true then (r, u, (if 1000000000 * n ≤ fillL r u l t now then fillL r u l t now - 1000000000 * n else fillL r u l t now), fillT t now) else (0, 0, 0, 0)
set_option maxHeartbeats 4000000 in
theorem specTake_any (r u l t now n : Int) (w : World) : Calls Try.prog 30 #[.agg #[.int .i64 r, .int .i64 u, .int .i64 l, .int .i64 t], .int .i64 now, .int .i64 n] w fun e w' => e = .returned (.tuple #[bkV (takeOf r u l t now n), .bool (takeF r u l t now n)]) ∧ Below w.heap.size w w' := by
  unfold takeOf takeF takeOk
  cases h1 : bokB r u l t
  · show Calls _ _ _ _ fun e w' => e = .returned (.tuple #[.agg #[.int .i64 0, .int .i64 0, .int .i64 0, .int .i64 0], .bool false]) ∧ Below w.heap.size w w'
    go_enter Try.func30, Try.ntmps30
    go_wp2_with (first
      | (go_at_call 67; refine (specBucketOk_any _ _ _ _ _).mono ?_; rintro e w2 ⟨rfl, hb2⟩; rw [h1]; have kc := below_cells4 hb2; have kf := below_frozens4 hb2; have zb := hb2.size; have hbw := start2 hb2; have y1 := size2b hb2; have y0 := Nat.lt_of_succ_lt y1))
    refine bodyPost_ret (results_two rfl _ _ _ [.int .i64 0, .int .i64 0, .int .i64 0, .int .i64 0] rfl (cells_set4 (u0 := .int .i64 0) (u1 := .int .i64 0) (u2 := .int .i64 0) (u3 := .int .i64 0) _ _ _ _ ?_ ?_ ?_ ?_) Try.underlying49 rfl (by kernel_rfl)) rfl ?_
    · go_simp
    · go_simp
    · go_simp
    · go_simp
    exact ⟨rfl, by go_grown⟩
  · cases h2 : timeB now
    · show Calls _ _ _ _ fun e w' => e = .returned (.tuple #[.agg #[.int .i64 0, .int .i64 0, .int .i64 0, .int .i64 0], .bool false]) ∧ Below w.heap.size w w'
      go_enter Try.func30, Try.ntmps30
      go_wp2_with (first
        | (go_at_call 67; refine (specBucketOk_any _ _ _ _ _).mono ?_; rintro e w2 ⟨rfl, hb2⟩; rw [h1]; have kc := below_cells4 hb2; have kf := below_frozens4 hb2; have zb := hb2.size; have hbw := start2 hb2; have y1 := size2b hb2; have y0 := Nat.lt_of_succ_lt y1)
        | (go_at_call 58; refine (time_any _ _).mono ?_; rintro e w2 ⟨rfl, rfl⟩; rw [h2]))
      refine bodyPost_ret (results_two rfl _ _ _ [.int .i64 0, .int .i64 0, .int .i64 0, .int .i64 0] rfl (cells_set4 (u0 := .int .i64 0) (u1 := .int .i64 0) (u2 := .int .i64 0) (u3 := .int .i64 0) _ _ _ _ ?_ ?_ ?_ ?_) Try.underlying49 rfl (by kernel_rfl)) rfl ?_
      · go_simp
      · go_simp
      · go_simp
      · go_simp
      exact ⟨rfl, by go_grown⟩
    · cases h3 : segB n
      · show Calls _ _ _ _ fun e w' => e = .returned (.tuple #[.agg #[.int .i64 0, .int .i64 0, .int .i64 0, .int .i64 0], .bool false]) ∧ Below w.heap.size w w'
        go_enter Try.func30, Try.ntmps30
        go_wp2_with (first
          | (go_at_call 67; refine (specBucketOk_any _ _ _ _ _).mono ?_; rintro e w2 ⟨rfl, hb2⟩; rw [h1]; have kc := below_cells4 hb2; have kf := below_frozens4 hb2; have zb := hb2.size; have hbw := start2 hb2; have y1 := size2b hb2; have y0 := Nat.lt_of_succ_lt y1)
          | (go_at_call 58; refine (time_any _ _).mono ?_; rintro e w2 ⟨rfl, rfl⟩; rw [h2])
          | (go_at_call 68; refine (seg_any _ _).mono ?_; rintro e w2 ⟨rfl, rfl⟩; rw [h3]))
        refine bodyPost_ret (results_two rfl _ _ _ [.int .i64 0, .int .i64 0, .int .i64 0, .int .i64 0] rfl (cells_set4 (u0 := .int .i64 0) (u1 := .int .i64 0) (u2 := .int .i64 0) (u3 := .int .i64 0) _ _ _ _ ?_ ?_ ?_ ?_) Try.underlying49 rfl (by kernel_rfl)) rfl ?_
        · go_simp
        · go_simp
        · go_simp
        · go_simp
        exact ⟨rfl, by go_grown⟩
      · have n3 := seg_num h3
        obtain ⟨nr, nu, nl, nt⟩ := bok_num h1
        have nf := fill_bounds (now := now) (t := t) nu nl nr.1
        by_cases hlv : 1000000000 * n ≤ fillL r u l t now
        · rw [decide_eq_true hlv, if_pos hlv]
          show Calls _ _ _ _ fun e w' => e = .returned (.tuple #[.agg #[.int .i64 r, .int .i64 u, .int .i64 (fillL r u l t now - 1000000000 * n), .int .i64 (fillT t now)], .bool true]) ∧ Below w.heap.size w w'
          go_enter Try.func30, Try.ntmps30
          go_upto_region 4 with (first
            | (go_at_call 67; refine (specBucketOk_any _ _ _ _ _).mono ?_; rintro e w2 ⟨rfl, hb2⟩; rw [h1]; have kc := below_cells4 hb2; have kf := below_frozens4 hb2; have zb := hb2.size; have hbw := start2 hb2; have y1 := size2b hb2; have y0 := Nat.lt_of_succ_lt y1)
            | (go_at_call 58; refine (time_any _ _).mono ?_; rintro e w2 ⟨rfl, rfl⟩; rw [h2])
            | (go_at_call 68; refine (seg_any _ _).mono ?_; rintro e w2 ⟨rfl, rfl⟩; rw [h3])
            | (go_at_call 69; refine (l4Fill_any _ h1 h2).mono ?_; rintro e w3 ⟨rfl, hb3⟩; have kc3 := below_cells4 hb3; have kf3 := below_frozens4 hb3; have zb3 := hb3.size; have hbw := below_two hbw hb3; have q0 : w3.cell? ⟨w.heap.size, 0, none⟩ = some (.int .i64 r) := (kc3 _ _ y0).trans ((kc _ _ (by simp; omega)).trans (by go_simp)); have q1 : w3.cell? ⟨w.heap.size, 1, none⟩ = some (.int .i64 u) := (kc3 _ _ y0).trans ((kc _ _ (by simp; omega)).trans (by go_simp)); have q2 : w3.cell? ⟨w.heap.size, 2, none⟩ = some (.int .i64 l) := (kc3 _ _ y0).trans ((kc _ _ (by simp; omega)).trans (by go_simp)); have q3 : w3.cell? ⟨w.heap.size, 3, none⟩ = some (.int .i64 t) := (kc3 _ _ y0).trans ((kc _ _ (by simp; omega)).trans (by go_simp)); obtain ⟨w4, hw4, s0, s1, s2, s3, hfar, hfro, hsz, hbel⟩ := over4 (.int .i64 r) (.int .i64 u) (.int .i64 (fillL r u l t now)) (.int .i64 (fillT t now)) q0 q1 q2 q3))
          rw [← hw4]
          have z4 : w.heap.size + 1 < w4.heap.size := by rw [hsz]; omega
          have r0 : w4.cell? ⟨w.heap.size + 1, 0, none⟩ = some (.int .i64 0) := (hfar _ _ (by omega)).trans ((kc3 _ _ y1).trans ((kc _ _ (by simp)).trans (by go_simp)))
          have r1 : w4.cell? ⟨w.heap.size + 1, 1, none⟩ = some (.int .i64 0) := (hfar _ _ (by omega)).trans ((kc3 _ _ y1).trans ((kc _ _ (by simp)).trans (by go_simp)))
          have r2 : w4.cell? ⟨w.heap.size + 1, 2, none⟩ = some (.int .i64 0) := (hfar _ _ (by omega)).trans ((kc3 _ _ y1).trans ((kc _ _ (by simp)).trans (by go_simp)))
          have r3 : w4.cell? ⟨w.heap.size + 1, 3, none⟩ = some (.int .i64 0) := (hfar _ _ (by omega)).trans ((kc3 _ _ y1).trans ((kc _ _ (by simp)).trans (by go_simp)))
          have fR : ∀ o : Nat, w4.frozen? ⟨w.heap.size + 1, o, none⟩ = false := fun o => (hfro _ _).trans ((kf3 _ _ y1).trans ((kf _ _ (by simp)).trans (by go_simp)))
          have fB : ∀ o : Nat, w4.frozen? ⟨w.heap.size, o, none⟩ = false := fun o => (hfro _ _).trans ((kf3 _ _ y0).trans ((kf _ _ (by simp; omega)).trans (by go_simp)))
          have hbw := hbw.trans (hbel w.heap.size (Nat.le_refl _))
          clear hw4 hfar hfro hsz hbel q0 q1 q2 q3 kc kf kc3 kf3
          go_wp2
          refine bodyPost_ret (results_two rfl _ _ _ [.int .i64 r, .int .i64 u, .int .i64 (fillL r u l t now - 1000000000 * n), .int .i64 (fillT t now)] rfl (cells_set4 (u0 := .int .i64 0) (u1 := .int .i64 0) (u2 := .int .i64 0) (u3 := .int .i64 0) _ _ _ _ ?_ ?_ ?_ ?_) Try.underlying49 rfl (by kernel_rfl)) rfl ?_
          · go_simp
          · go_simp
          · go_simp
          · go_simp
          exact ⟨rfl, by go_grown⟩
        · rw [decide_eq_false hlv, if_neg hlv]
          show Calls _ _ _ _ fun e w' => e = .returned (.tuple #[.agg #[.int .i64 r, .int .i64 u, .int .i64 (fillL r u l t now), .int .i64 (fillT t now)], .bool false]) ∧ Below w.heap.size w w'
          go_enter Try.func30, Try.ntmps30
          go_upto_region 4 with (first
            | (go_at_call 67; refine (specBucketOk_any _ _ _ _ _).mono ?_; rintro e w2 ⟨rfl, hb2⟩; rw [h1]; have kc := below_cells4 hb2; have kf := below_frozens4 hb2; have zb := hb2.size; have hbw := start2 hb2; have y1 := size2b hb2; have y0 := Nat.lt_of_succ_lt y1)
            | (go_at_call 58; refine (time_any _ _).mono ?_; rintro e w2 ⟨rfl, rfl⟩; rw [h2])
            | (go_at_call 68; refine (seg_any _ _).mono ?_; rintro e w2 ⟨rfl, rfl⟩; rw [h3])
            | (go_at_call 69; refine (l4Fill_any _ h1 h2).mono ?_; rintro e w3 ⟨rfl, hb3⟩; have kc3 := below_cells4 hb3; have kf3 := below_frozens4 hb3; have zb3 := hb3.size; have hbw := below_two hbw hb3; have q0 : w3.cell? ⟨w.heap.size, 0, none⟩ = some (.int .i64 r) := (kc3 _ _ y0).trans ((kc _ _ (by simp; omega)).trans (by go_simp)); have q1 : w3.cell? ⟨w.heap.size, 1, none⟩ = some (.int .i64 u) := (kc3 _ _ y0).trans ((kc _ _ (by simp; omega)).trans (by go_simp)); have q2 : w3.cell? ⟨w.heap.size, 2, none⟩ = some (.int .i64 l) := (kc3 _ _ y0).trans ((kc _ _ (by simp; omega)).trans (by go_simp)); have q3 : w3.cell? ⟨w.heap.size, 3, none⟩ = some (.int .i64 t) := (kc3 _ _ y0).trans ((kc _ _ (by simp; omega)).trans (by go_simp)); obtain ⟨w4, hw4, s0, s1, s2, s3, hfar, hfro, hsz, hbel⟩ := over4 (.int .i64 r) (.int .i64 u) (.int .i64 (fillL r u l t now)) (.int .i64 (fillT t now)) q0 q1 q2 q3))
          rw [← hw4]
          have z4 : w.heap.size + 1 < w4.heap.size := by rw [hsz]; omega
          have r0 : w4.cell? ⟨w.heap.size + 1, 0, none⟩ = some (.int .i64 0) := (hfar _ _ (by omega)).trans ((kc3 _ _ y1).trans ((kc _ _ (by simp)).trans (by go_simp)))
          have r1 : w4.cell? ⟨w.heap.size + 1, 1, none⟩ = some (.int .i64 0) := (hfar _ _ (by omega)).trans ((kc3 _ _ y1).trans ((kc _ _ (by simp)).trans (by go_simp)))
          have r2 : w4.cell? ⟨w.heap.size + 1, 2, none⟩ = some (.int .i64 0) := (hfar _ _ (by omega)).trans ((kc3 _ _ y1).trans ((kc _ _ (by simp)).trans (by go_simp)))
          have r3 : w4.cell? ⟨w.heap.size + 1, 3, none⟩ = some (.int .i64 0) := (hfar _ _ (by omega)).trans ((kc3 _ _ y1).trans ((kc _ _ (by simp)).trans (by go_simp)))
          have fR : ∀ o : Nat, w4.frozen? ⟨w.heap.size + 1, o, none⟩ = false := fun o => (hfro _ _).trans ((kf3 _ _ y1).trans ((kf _ _ (by simp)).trans (by go_simp)))
          have fB : ∀ o : Nat, w4.frozen? ⟨w.heap.size, o, none⟩ = false := fun o => (hfro _ _).trans ((kf3 _ _ y0).trans ((kf _ _ (by simp; omega)).trans (by go_simp)))
          have hbw := hbw.trans (hbel w.heap.size (Nat.le_refl _))
          clear hw4 hfar hfro hsz hbel q0 q1 q2 q3 kc kf kc3 kf3
          go_wp2
          refine bodyPost_ret (results_two rfl _ _ _ [.int .i64 r, .int .i64 u, .int .i64 (fillL r u l t now), .int .i64 (fillT t now)] rfl (cells_set4 (u0 := .int .i64 0) (u1 := .int .i64 0) (u2 := .int .i64 0) (u3 := .int .i64 0) _ _ _ _ ?_ ?_ ?_ ?_) Try.underlying49 rfl (by kernel_rfl)) rfl ?_
          · go_simp
          · go_simp
          · go_simp
          · go_simp
          exact ⟨rfl, by go_grown⟩
def whenOk (r u l t n : Int) : Bool := bokB r u l t && segB n
def whenOf (r u l t n : Int) : Int := if whenOk r u l t n = true then (if 1000000000 * n - l ≤ 0 then t else if u < n ∨ r = 0 then 1000000000000000 else min 1000000000000000 (t + (1000000000 * n - l + r - 1) / r)) else -1
theorem when_no {r u l t n : Int} (h : whenOk r u l t n = false) : whenOf r u l t n = -1 := by unfold whenOf; rw [h]; rfl
set_option maxHeartbeats 4000000 in
theorem specWhen_any (r u l t n : Int) (w : World) : Calls Try.prog 36 #[.agg #[.int .i64 r, .int .i64 u, .int .i64 l, .int .i64 t], .int .i64 n] w fun e w' => e = .returned (.int .i64 (whenOf r u l t n)) ∧ Below w.heap.size w w' := by
  cases h1 : bokB r u l t
  · rw [when_no (by unfold whenOk; rw [h1]; rfl)]
    go_enter Try.func36, Try.ntmps36
    go_wp2_with (first
      | (go_at_call 67; refine (specBucketOk_any _ _ _ _ _).mono ?_; rintro e w2 ⟨rfl, hb2⟩; rw [h1]; have kc := below_cells4 hb2; have kf := below_frozens4 hb2; have zb := hb2.size; have hbw := start1 hb2; have y0 := size1b hb2))
    go_ret
    exact ⟨rfl, hbw⟩
  · cases h3 : segB n
    · rw [when_no (by unfold whenOk; rw [h1, h3]; rfl)]
      go_enter Try.func36, Try.ntmps36
      go_wp2_with (first
        | (go_at_call 67; refine (specBucketOk_any _ _ _ _ _).mono ?_; rintro e w2 ⟨rfl, hb2⟩; rw [h1]; have kc := below_cells4 hb2; have kf := below_frozens4 hb2; have zb := hb2.size; have hbw := start1 hb2; have y0 := size1b hb2)
        | (go_at_call 68; refine (seg_any _ _).mono ?_; rintro e w2 ⟨rfl, rfl⟩; rw [h3]))
      go_ret
      exact ⟨rfl, hbw⟩
    · have n3 := seg_num h3
      obtain ⟨nr, nu, nl, nt⟩ := bok_num h1
      have hw : whenOf r u l t n = (if 1000000000 * n - l ≤ 0 then t else if u < n ∨ r = 0 then 1000000000000000 else min 1000000000000000 (t + (1000000000 * n - l + r - 1) / r)) := by unfold whenOf whenOk; rw [h1, h3]; rfl
      by_cases hm : 1000000000 * n - l ≤ 0
      · rw [hw, if_pos hm]
        clear hw
        go_enter Try.func36, Try.ntmps36
        go_wp2_with (first
          | (go_at_call 67; refine (specBucketOk_any _ _ _ _ _).mono ?_; rintro e w2 ⟨rfl, hb2⟩; rw [h1]; have kc := below_cells4 hb2; have kf := below_frozens4 hb2; have zb := hb2.size; have hbw := start1 hb2; have y0 := size1b hb2)
          | (go_at_call 68; refine (seg_any _ _).mono ?_; rintro e w2 ⟨rfl, rfl⟩; rw [h3]))
        go_ret
        exact ⟨rfl, hbw⟩
      · rw [hw, if_neg hm]
        clear hw
        by_cases hu : u < n
        · rw [if_pos (.inl hu)]
          go_enter Try.func36, Try.ntmps36
          go_wp2_with (first
            | (go_at_call 67; refine (specBucketOk_any _ _ _ _ _).mono ?_; rintro e w2 ⟨rfl, hb2⟩; rw [h1]; have kc := below_cells4 hb2; have kf := below_frozens4 hb2; have zb := hb2.size; have hbw := start1 hb2; have y0 := size1b hb2)
            | (go_at_call 68; refine (seg_any _ _).mono ?_; rintro e w2 ⟨rfl, rfl⟩; rw [h3]))
          go_ret
          exact ⟨rfl, hbw⟩
        · have hu' : decide (u < n) = false := decide_eq_false hu
          by_cases hr : r = 0
          · rw [if_pos (.inr hr)]
            subst hr
            go_enter Try.func36, Try.ntmps36
            go_wp2_with (first
              | (go_at_call 67; refine (specBucketOk_any _ _ _ _ _).mono ?_; rintro e w2 ⟨rfl, hb2⟩; rw [h1]; have kc := below_cells4 hb2; have kf := below_frozens4 hb2; have zb := hb2.size; have hbw := start1 hb2; have y0 := size1b hb2)
              | (go_at_call 68; refine (seg_any _ _).mono ?_; rintro e w2 ⟨rfl, rfl⟩; rw [h3]))
            go_ret
            exact ⟨rfl, hbw⟩
          · rw [if_neg (by omega)]
            have hr' : (r == 0) = false := by simp [hr]
            go_enter Try.func36, Try.ntmps36
            go_wp2_with (first
              | (go_at_call 67; refine (specBucketOk_any _ _ _ _ _).mono ?_; rintro e w2 ⟨rfl, hb2⟩; rw [h1]; have kc := below_cells4 hb2; have kf := below_frozens4 hb2; have zb := hb2.size; have hbw := start1 hb2; have y0 := size1b hb2)
              | (go_at_call 68; refine (seg_any _ _).mono ?_; rintro e w2 ⟨rfl, rfl⟩; rw [h3]))
            have c3 : w2.cell? ⟨w.heap.size, 3, none⟩ = some (.int .i64 t) := (kc _ _ (by simp)).trans (by go_simp)
            have c0 : w2.cell? ⟨w.heap.size, 0, none⟩ = some (.int .i64 r) := (kc _ _ (by simp)).trans (by go_simp)
            have x0 : 0 ≤ 1000000000 * n - l + r - 1 := by omega
            have q0 : 0 ≤ (1000000000 * n - l + r - 1) / r := Int.ediv_nonneg x0 nr.1
            have q1 : (1000000000 * n - l + r - 1) / r ≤ 1000000000 * n - l + r - 1 := Int.ediv_le_self _ x0
            have e1 : IntKind.i64.wrap (1000000000 * n - l + r) = 1000000000 * n - l + r := by rw [IntKind.wrap_i64]; omega
            have e2 : IntKind.i64.wrap (1000000000 * n - l + r - 1) = 1000000000 * n - l + r - 1 := by rw [IntKind.wrap_i64]; omega
            have e3 : (1000000000 * n - l + r - 1).tdiv r = (1000000000 * n - l + r - 1) / r := Int.tdiv_eq_ediv_of_nonneg x0
            generalize hQ : (1000000000 * n - l + r - 1) / r = Q at *
            have e4 : IntKind.i64.wrap Q = Q := by rw [IntKind.wrap_i64]; omega
            have e5 : IntKind.i64.wrap (t + Q) = t + Q := by rw [IntKind.wrap_i64]; omega
            clear kc kf
            go_region_held3 (fun w' => w'.cell? ⟨w.heap.size, 3, none⟩ = some (.int .i64 t) ∧ w'.cell? ⟨w.heap.size, 0, none⟩ = some (.int .i64 r)) (go_keep)
              (first
                | (go_at_call 75; refine (min_any _ _ _).mono ?_; rintro e w3 ⟨rfl, rfl⟩))
            go_wp2
            go_ret
            exact ⟨by rw [hQ]; rfl, hbw.drew⟩
def resetOk (r u l t r' u' now : Int) : Bool := ((bokB r u l t && rateB r') && winB u') && timeB now
def resetOf (r u l t r' u' now : Int) : Int × Int × Int × Int := if resetOk r u l t r' u' now = true then (r', u', min (fillL r u l t now) (1000000000 * u'), fillT t now) else (0, 0, 0, 0)
theorem reset_no {r u l t r' u' now : Int} (h : resetOk r u l t r' u' now = false) : resetOf r u l t r' u' now = (0, 0, 0, 0) := by unfold resetOf; rw [h]; rfl
end Go.Proofs.Ytohenfogiegkmab

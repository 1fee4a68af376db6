/- What spec's buckets answer: Take, When, Reset. -/
import Derived.Test.YtohenfogiegkmacSpecBuck3
import Derived.Deep.DeepCutAuto
namespace Go.Proofs.Ytohenfogiegkmac
open Go.ChangeShapes Go.WideShapes Go.ChangeAt Go.RowKit
set_option maxRecDepth 100000
set_option linter.unusedVariables false

theorem size1b {w w' : World} {A : Obj} (h : Below (w.alloc A).heap.size (w.alloc A) w') : w.heap.size < w'.heap.size := by
  have := h.size
  simp at this
  omega
def takeOk (r u l t now n : Int) : Bool := (bokB r u l t && timeB now) && segB n
def takeF (r u l t now n : Int) : Bool := takeOk r u l t now n && decide (1000000000 * n ≤ fillL r u l t now)
def takeOf (r u l t now n : Int) : Int × Int × Int × Int := if takeOk r u l t now n = true then (r, u, (if 1000000000 * n ≤ fillL r u l t now then fillL r u l t now - 1000000000 * n else fillL r u l t now), fillT t now) else (0, 0, 0, 0)
def whenOk (r u l t n : Int) : Bool := bokB r u l t && segB n
def whenOf (r u l t n : Int) : Int := if whenOk r u l t n = true then (if 1000000000 * n - l ≤ 0 then t else if u < n ∨ r = 0 then 1000000000000000 else min 1000000000000000 (t + (1000000000 * n - l + r - 1) / r)) else -1
theorem when_no {r u l t n : Int} (h : whenOk r u l t n = false) : whenOf r u l t n = -1 := by unfold whenOf; rw [h]; rfl
def resetOk (r u l t r' u' now : Int) : Bool := ((bokB r u l t && rateB r') && winB u') && timeB now
def resetOf (r u l t r' u' now : Int) : Int × Int × Int × Int := if resetOk r u l t r' u' now = true then (r', u', min (fillL r u l t now) (1000000000 * u'), fillT t now) else (0, 0, 0, 0)
theorem reset_no {r u l t r' u' now : Int} (h : resetOk r u l t r' u' now = false) : resetOf r u l t r' u' now = (0, 0, 0, 0) := by unfold resetOf; rw [h]; rfl
set_option maxHeartbeats 4000000 in
theorem specReset_any (r u l t r' u' now : Int) (w : World) : Calls Try.prog 16 #[.agg #[.int .i64 r, .int .i64 u, .int .i64 l, .int .i64 t], .int .i64 r', .int .i64 u', .int .i64 now] w fun e w' => e = .returned (bkV (resetOf r u l t r' u' now)) ∧ Below w.heap.size w w' := by
  cases h1 : bokB r u l t
  · rw [reset_no (by unfold resetOk; rw [h1]; rfl)]
    go_enter Try.func16, Try.ntmps16
    go_wp2_with (first
      | (go_at_call 55; refine (specBucketOk_any _ _ _ _ _).mono ?_; rintro e w2 ⟨rfl, hb2⟩; rw [h1]; have kc := below_cells4 hb2; have kf := below_frozens4 hb2; have zb := hb2.size; have hbw := start2 hb2; have y1 := size2b hb2; have y0 := Nat.lt_of_succ_lt y1))
    refine bodyPost_ret (results_one rfl _ _ _ [.int .i64 0, .int .i64 0, .int .i64 0, .int .i64 0] rfl (cells_set4 (u0 := .int .i64 0) (u1 := .int .i64 0) (u2 := .int .i64 0) (u3 := .int .i64 0) _ _ _ _ ?_ ?_ ?_ ?_) Try.underlying25 rfl (by kernel_rfl)) rfl ?_
    · go_simp
    · go_simp
    · go_simp
    · go_simp
    exact ⟨rfl, by go_grown⟩
  · cases h4 : rateB r'
    · rw [reset_no (by unfold resetOk; rw [h1, h4]; rfl)]
      go_enter Try.func16, Try.ntmps16
      go_wp2_with (first
        | (go_at_call 55; refine (specBucketOk_any _ _ _ _ _).mono ?_; rintro e w2 ⟨rfl, hb2⟩; rw [h1]; have kc := below_cells4 hb2; have kf := below_frozens4 hb2; have zb := hb2.size; have hbw := start2 hb2; have y1 := size2b hb2; have y0 := Nat.lt_of_succ_lt y1)
        | (go_at_call 63; refine (rate_any _ _).mono ?_; rintro e w2 ⟨rfl, rfl⟩; rw [h4]))
      refine bodyPost_ret (results_one rfl _ _ _ [.int .i64 0, .int .i64 0, .int .i64 0, .int .i64 0] rfl (cells_set4 (u0 := .int .i64 0) (u1 := .int .i64 0) (u2 := .int .i64 0) (u3 := .int .i64 0) _ _ _ _ ?_ ?_ ?_ ?_) Try.underlying25 rfl (by kernel_rfl)) rfl ?_
      · go_simp
      · go_simp
      · go_simp
      · go_simp
      exact ⟨rfl, by go_grown⟩
    · cases h5 : winB u'
      · rw [reset_no (by unfold resetOk; rw [h1, h4, h5]; rfl)]
        go_enter Try.func16, Try.ntmps16
        go_wp2_with (first
          | (go_at_call 55; refine (specBucketOk_any _ _ _ _ _).mono ?_; rintro e w2 ⟨rfl, hb2⟩; rw [h1]; have kc := below_cells4 hb2; have kf := below_frozens4 hb2; have zb := hb2.size; have hbw := start2 hb2; have y1 := size2b hb2; have y0 := Nat.lt_of_succ_lt y1)
          | (go_at_call 63; refine (rate_any _ _).mono ?_; rintro e w2 ⟨rfl, rfl⟩; rw [h4])
          | (go_at_call 64; refine (window_any _ _).mono ?_; rintro e w2 ⟨rfl, rfl⟩; rw [h5]))
        refine bodyPost_ret (results_one rfl _ _ _ [.int .i64 0, .int .i64 0, .int .i64 0, .int .i64 0] rfl (cells_set4 (u0 := .int .i64 0) (u1 := .int .i64 0) (u2 := .int .i64 0) (u3 := .int .i64 0) _ _ _ _ ?_ ?_ ?_ ?_) Try.underlying25 rfl (by kernel_rfl)) rfl ?_
        · go_simp
        · go_simp
        · go_simp
        · go_simp
        exact ⟨rfl, by go_grown⟩
      · cases h2 : timeB now
        · rw [reset_no (by unfold resetOk; rw [h1, h4, h5, h2]; rfl)]
          go_enter Try.func16, Try.ntmps16
          go_wp2_with (first
            | (go_at_call 55; refine (specBucketOk_any _ _ _ _ _).mono ?_; rintro e w2 ⟨rfl, hb2⟩; rw [h1]; have kc := below_cells4 hb2; have kf := below_frozens4 hb2; have zb := hb2.size; have hbw := start2 hb2; have y1 := size2b hb2; have y0 := Nat.lt_of_succ_lt y1)
            | (go_at_call 63; refine (rate_any _ _).mono ?_; rintro e w2 ⟨rfl, rfl⟩; rw [h4])
            | (go_at_call 64; refine (window_any _ _).mono ?_; rintro e w2 ⟨rfl, rfl⟩; rw [h5])
            | (go_at_call 56; refine (time_any _ _).mono ?_; rintro e w2 ⟨rfl, rfl⟩; rw [h2]))
          refine bodyPost_ret (results_one rfl _ _ _ [.int .i64 0, .int .i64 0, .int .i64 0, .int .i64 0] rfl (cells_set4 (u0 := .int .i64 0) (u1 := .int .i64 0) (u2 := .int .i64 0) (u3 := .int .i64 0) _ _ _ _ ?_ ?_ ?_ ?_) Try.underlying25 rfl (by kernel_rfl)) rfl ?_
          · go_simp
          · go_simp
          · go_simp
          · go_simp
          exact ⟨rfl, by go_grown⟩
        · have hw : resetOf r u l t r' u' now = (r', u', min (fillL r u l t now) (1000000000 * u'), fillT t now) := by unfold resetOf resetOk; rw [h1, h4, h5, h2]; rfl
          rw [hw]
          have n5 := win_num h5
          obtain ⟨nr, nu, nl, nt⟩ := bok_num h1
          have nf := fill_bounds (now := now) (t := t) nu nl nr.1
          clear hw
          go_enter Try.func16, Try.ntmps16
          go_upto_region 4 with (first
            | (go_at_call 55; refine (specBucketOk_any _ _ _ _ _).mono ?_; rintro e w2 ⟨rfl, hb2⟩; rw [h1]; have kc := below_cells4 hb2; have kf := below_frozens4 hb2; have zb := hb2.size; have hbw := start2 hb2; have y1 := size2b hb2; have y0 := Nat.lt_of_succ_lt y1)
            | (go_at_call 63; refine (rate_any _ _).mono ?_; rintro e w2 ⟨rfl, rfl⟩; rw [h4])
            | (go_at_call 64; refine (window_any _ _).mono ?_; rintro e w2 ⟨rfl, rfl⟩; rw [h5])
            | (go_at_call 56; refine (time_any _ _).mono ?_; rintro e w2 ⟨rfl, rfl⟩; rw [h2])
            | (go_at_call 57; refine (l4Fill_any _ h1 h2).mono ?_; rintro e w3 ⟨rfl, hb3⟩; have kc3 := below_cells4 hb3; have kf3 := below_frozens4 hb3; have zb3 := hb3.size; have hbw := below_two hbw hb3; have q0 : w3.cell? ⟨w.heap.size, 0, none⟩ = some (.int .i64 r) := (kc3 _ _ y0).trans ((kc _ _ (by simp; omega)).trans (by go_simp)); have q1 : w3.cell? ⟨w.heap.size, 1, none⟩ = some (.int .i64 u) := (kc3 _ _ y0).trans ((kc _ _ (by simp; omega)).trans (by go_simp)); have q2 : w3.cell? ⟨w.heap.size, 2, none⟩ = some (.int .i64 l) := (kc3 _ _ y0).trans ((kc _ _ (by simp; omega)).trans (by go_simp)); have q3 : w3.cell? ⟨w.heap.size, 3, none⟩ = some (.int .i64 t) := (kc3 _ _ y0).trans ((kc _ _ (by simp; omega)).trans (by go_simp)); obtain ⟨w4, hw4, s0, s1, s2, s3, hfar, hfro, hsz, hbel⟩ := over4 (.int .i64 r) (.int .i64 u) (.int .i64 (fillL r u l t now)) (.int .i64 (fillT t now)) q0 q1 q2 q3))
          rw [← hw4]
          have z4 : w.heap.size + 1 < w4.heap.size := by rw [hsz]; omega
          have r0 : w4.cell? ⟨w.heap.size + 1, 0, none⟩ = some (.int .i64 0) := (hfar _ _ (by omega)).trans ((kc3 _ _ y1).trans ((kc _ _ (by simp)).trans (by go_simp)))
          have r1 : w4.cell? ⟨w.heap.size + 1, 1, none⟩ = some (.int .i64 0) := (hfar _ _ (by omega)).trans ((kc3 _ _ y1).trans ((kc _ _ (by simp)).trans (by go_simp)))
          have r2 : w4.cell? ⟨w.heap.size + 1, 2, none⟩ = some (.int .i64 0) := (hfar _ _ (by omega)).trans ((kc3 _ _ y1).trans ((kc _ _ (by simp)).trans (by go_simp)))
          have r3 : w4.cell? ⟨w.heap.size + 1, 3, none⟩ = some (.int .i64 0) := (hfar _ _ (by omega)).trans ((kc3 _ _ y1).trans ((kc _ _ (by simp)).trans (by go_simp)))
          have fR : ∀ o : Nat, w4.frozen? ⟨w.heap.size + 1, o, none⟩ = false := fun o => (hfro _ _).trans ((kf3 _ _ y1).trans ((kf _ _ (by simp)).trans (by go_simp)))
          have fB : ∀ o : Nat, w4.frozen? ⟨w.heap.size, o, none⟩ = false := fun o => (hfro _ _).trans ((kf3 _ _ y0).trans ((kf _ _ (by simp; omega)).trans (by go_simp)))
          have hbw := hbw.trans (hbel w.heap.size (Nat.le_refl _))
          clear hw4 hfar hfro hsz hbel q0 q1 q2 q3 kc kf kc3 kf3
          go_wp2_with (first
            | (go_at_call 65; refine (min_any _ _ _).mono ?_; rintro e w5 ⟨rfl, rfl⟩))
          refine bodyPost_ret (results_one rfl _ _ _ [.int .i64 r', .int .i64 u', .int .i64 (min (fillL r u l t now) (1000000000 * u')), .int .i64 (fillT t now)] rfl (cells_set4 (u0 := .int .i64 0) (u1 := .int .i64 0) (u2 := .int .i64 0) (u3 := .int .i64 0) _ _ _ _ ?_ ?_ ?_ ?_) Try.underlying25 rfl (by kernel_rfl)) rfl ?_
          · go_simp
          · go_simp
          · go_simp
          · go_simp
          exact ⟨rfl, by go_grown⟩
end Go.Proofs.Ytohenfogiegkmac

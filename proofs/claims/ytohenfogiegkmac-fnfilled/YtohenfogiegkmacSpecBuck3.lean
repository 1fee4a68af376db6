/- What spec's buckets answer: Fill, Take, When. -/
import Derived.Test.YtohenfogiegkmacSpecBuck2
import Derived.Deep.RegionHeld3
namespace Go.Proofs.Ytohenfogiegkmac
open Go.ChangeShapes Go.WideShapes Go.ChangeAt Go.RowKit
set_option maxRecDepth 100000
set_option linter.unusedVariables false

def fillOf (r u l t now : Int) : Int × Int × Int × Int := if (bokB r u l t && timeB now) = true then (r, u, fillL r u l t now, fillT t now) else (0, 0, 0, 0)
set_option maxHeartbeats 2000000 in
theorem specFill_any (r u l t now : Int) (w : World) : Calls Try.prog 12 #[.agg #[.int .i64 r, .int .i64 u, .int .i64 l, .int .i64 t], .int .i64 now] w fun e w' => e = .returned (bkV (fillOf r u l t now)) ∧ Below w.heap.size w w' := by
  unfold fillOf
  cases h1 : bokB r u l t
  · show Calls _ _ _ _ fun e w' => e = .returned (.agg #[.int .i64 0, .int .i64 0, .int .i64 0, .int .i64 0]) ∧ Below w.heap.size w w'
    go_enter Try.func12, Try.ntmps12
    go_wp2_with (first | (go_at_call 55; refine (specBucketOk_any _ _ _ _ _).mono ?_; rintro e w2 ⟨rfl, hb2⟩; rw [h1]; have kc := below_cells4 hb2; have kf := below_frozens4 hb2; have zb := hb2.size; have hbw := start2 hb2; have y1 := size2b hb2; have y0 := Nat.lt_of_succ_lt y1))
    refine bodyPost_ret (results_one rfl _ _ _ [.int .i64 0, .int .i64 0, .int .i64 0, .int .i64 0] rfl (cells_set4 (u0 := .int .i64 0) (u1 := .int .i64 0) (u2 := .int .i64 0) (u3 := .int .i64 0) _ _ _ _ ?_ ?_ ?_ ?_) Try.underlying25 rfl (by kernel_rfl)) rfl ?_
    · go_simp
    · go_simp
    · go_simp
    · go_simp
    exact ⟨rfl, by go_grown⟩
  · cases h2 : timeB now
    · show Calls _ _ _ _ fun e w' => e = .returned (.agg #[.int .i64 0, .int .i64 0, .int .i64 0, .int .i64 0]) ∧ Below w.heap.size w w'
      go_enter Try.func12, Try.ntmps12
      go_wp2_with (first
        | (go_at_call 55; refine (specBucketOk_any _ _ _ _ _).mono ?_; rintro e w2 ⟨rfl, hb2⟩; rw [h1]; have kc := below_cells4 hb2; have kf := below_frozens4 hb2; have zb := hb2.size; have hbw := start2 hb2; have y1 := size2b hb2; have y0 := Nat.lt_of_succ_lt y1)
        | (go_at_call 56; refine (time_any _ _).mono ?_; rintro e w2 ⟨rfl, rfl⟩; rw [h2]))
      refine bodyPost_ret (results_one rfl _ _ _ [.int .i64 0, .int .i64 0, .int .i64 0, .int .i64 0] rfl (cells_set4 (u0 := .int .i64 0) (u1 := .int .i64 0) (u2 := .int .i64 0) (u3 := .int .i64 0) _ _ _ _ ?_ ?_ ?_ ?_) Try.underlying25 rfl (by kernel_rfl)) rfl ?_
      · go_simp
      · go_simp
      · go_simp
      · go_simp
      exact ⟨rfl, by go_grown⟩
    · show Calls _ _ _ _ fun e w' => e = .returned (.agg #[.int .i64 r, .int .i64 u, .int .i64 (fillL r u l t now), .int .i64 (fillT t now)]) ∧ Below w.heap.size w w'
      go_enter Try.func12, Try.ntmps12
      go_wp2_with (first
        | (go_at_call 55; refine (specBucketOk_any _ _ _ _ _).mono ?_; rintro e w2 ⟨rfl, hb2⟩; rw [h1]; have kc := below_cells4 hb2; have kf := below_frozens4 hb2; have zb := hb2.size; have hbw := start2 hb2; have y1 := size2b hb2; have y0 := Nat.lt_of_succ_lt y1)
        | (go_at_call 56; refine (time_any _ _).mono ?_; rintro e w2 ⟨rfl, rfl⟩; rw [h2])
        | (go_at_call 57; refine (l4Fill_any _ h1 h2).mono ?_; rintro e w3 ⟨rfl, hb3⟩; have kc3 := below_cells4 hb3; have kf3 := below_frozens4 hb3; have zb3 := hb3.size; have hbw := below_two hbw hb3))
      refine bodyPost_ret (results_one rfl _ _ _ [.int .i64 r, .int .i64 u, .int .i64 (fillL r u l t now), .int .i64 (fillT t now)] rfl (cells_set4 (u0 := .int .i64 0) (u1 := .int .i64 0) (u2 := .int .i64 0) (u3 := .int .i64 0) _ _ _ _ ?_ ?_ ?_ ?_) Try.underlying25 rfl (by kernel_rfl)) rfl ?_
      · go_simp
      · go_simp
      · go_simp
      · go_simp
      exact ⟨rfl, by go_grown⟩
end Go.Proofs.Ytohenfogiegkmac

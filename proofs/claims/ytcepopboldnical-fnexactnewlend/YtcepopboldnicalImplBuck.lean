/- What impl's buckets answer. -/
import Derived.Test.YtcepopboldnicalImplBuckB
namespace Go.Proofs.Ytcepopboldnical
open Go.ChangeShapes Go.WideShapes Go.ChangeAt Go.RowKit
set_option maxRecDepth 100000
set_option linter.unusedVariables false
set_option linter.unusedSimpArgs false

theorem bok_empty (r u t : Int) : bokB r u 0 t = fullOk r u t := by
  unfold bokB fullOk
  cases h : winB u
  · cases rateB r <;> rfl
  · have n := win_num h
    have e : lvlB u 0 = true := by unfold lvlB; rw [decide_eq_true (by omega), decide_eq_true (by omega)]; rfl
    rw [e]
    cases rateB r <;> cases timeB t <;> rfl
set_option maxHeartbeats 2000000 in
theorem implFull_any (r u t : Int) (w : World) : Calls Try.prog 78 #[.int .i64 r, .int .i64 u, .int .i64 t] w fun e w' => e = .returned (.tuple #[bkV (fullOf r u t), .bool (fullOk r u t)]) ∧ Below w.heap.size w w' := by
  have hk := bok_empty r u t
  cases h : fullOk r u t
  · have e0 : fullOf r u t = (0, 0, 0, 0) := by unfold fullOf; rw [h]; rfl
    rw [e0]
    rw [h] at hk
    clear e0 h
    go_enter Try.func78, Try.ntmps78
    go_wp2_with (first
      | (go_at_call 79; refine (implBucketOk_any _ _ _ _ _).mono ?_; rintro e w2 ⟨rfl, hb2⟩; rw [hk]; have kc := below_cells4 hb2; have kf := below_frozens4 hb2; have zb := hb2.size; have hbw := start2 hb2; have y1 := size2b hb2; have y0 := Nat.lt_of_succ_lt y1))
    refine bodyPost_ret (results_two rfl _ _ _ [.int .i64 0, .int .i64 0, .int .i64 0, .int .i64 0] rfl (cells_set4 (u0 := .int .i64 0) (u1 := .int .i64 0) (u2 := .int .i64 0) (u3 := .int .i64 0) _ _ _ _ ?_ ?_ ?_ ?_) Try.underlying63 rfl (by kernel_rfl)) rfl ?_
    · go_simp
    · go_simp
    · go_simp
    · go_simp
    exact ⟨rfl, by go_grown⟩
  · have e0 : fullOf r u t = (r, u, 1000000000 * u, t) := by unfold fullOf; rw [h]; rfl
    rw [e0]
    rw [h] at hk
    have n2 : 0 ≤ u ∧ u ≤ 1000000000 := (bok_num hk).2.1
    clear e0 h
    go_enter Try.func78, Try.ntmps78
    go_wp2_with (first
      | (go_at_call 79; refine (implBucketOk_any _ _ _ _ _).mono ?_; rintro e w2 ⟨rfl, hb2⟩; rw [hk]; have kc := below_cells4 hb2; have kf := below_frozens4 hb2; have zb := hb2.size; have hbw := start2 hb2; have y1 := size2b hb2; have y0 := Nat.lt_of_succ_lt y1)
      | (go_at_call 80; refine (ifull_any _ _ _ _ _ n2).mono ?_; rintro e w3 ⟨rfl, hb3⟩; have kc := fun b o h => (below_cells4 hb3 b o (Nat.lt_of_lt_of_le h zb)).trans (kc b o h); have kf := fun b o h => (below_frozens4 hb3 b o (Nat.lt_of_lt_of_le h zb)).trans (kf b o h); have hbw := below_two hbw hb3; have y1 := Nat.lt_of_lt_of_le y1 hb3.size; have y0 := Nat.lt_of_succ_lt y1))
    refine bodyPost_ret (results_two rfl _ _ _ [.int .i64 r, .int .i64 u, .int .i64 (1000000000 * u), .int .i64 t] rfl (cells_set4 (u0 := .int .i64 0) (u1 := .int .i64 0) (u2 := .int .i64 0) (u3 := .int .i64 0) _ _ _ _ ?_ ?_ ?_ ?_) Try.underlying63 rfl (by kernel_rfl)) rfl ?_
    · go_simp
    · go_simp
    · go_simp
    · go_simp
    exact ⟨rfl, by go_grown⟩
theorem pair_var {w w3 : World} {c : Nat} {r u l t : Int} (d0 : w3.cell? ⟨c, 0, none⟩ = some (.int .i64 0)) (d1 : w3.cell? ⟨c, 1, none⟩ = some (.int .i64 0)) (d2 : w3.cell? ⟨c, 2, none⟩ = some (.int .i64 0)) (d3 : w3.cell? ⟨c, 3, none⟩ = some (.int .i64 0))
    (fb : ∀ o : Nat, w3.frozen? ⟨c, o, none⟩ = false) (hb : Below w.heap.size w w3) (yc : c < w3.heap.size) : Pair4 w (w3.alloc (.cells #[.int .i64 r, .int .i64 u, .int .i64 l, .int .i64 t] 63)) w3.heap.size c r u l t :=
  have hr : Below w3.heap.size w3 (w3.alloc (.cells #[.int .i64 r, .int .i64 u, .int .i64 l, .int .i64 t] 63)) := by go_grown
  have e := below_cells4 hr
  have f := below_frozens4 hr
  ⟨by go_simp, by go_simp, by go_simp, by go_simp, (e _ _ yc).trans d0, (e _ _ yc).trans d1, (e _ _ yc).trans d2, (e _ _ yc).trans d3, fun o => by go_simp, fun o => (f _ _ yc).trans (fb o), below_two hb hr, by simp, by simp; omega, hb.size, by omega⟩
end Go.Proofs.Ytcepopboldnical

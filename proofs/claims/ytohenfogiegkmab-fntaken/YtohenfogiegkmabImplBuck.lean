/- What impl's buckets answer. -/
import Derived.Test.YtohenfogiegkmabImplBuckB
namespace Go.Proofs.Ytohenfogiegkmab
open Go.ChangeShapes Go.WideShapes Go.ChangeAt Go.RowKit
set_option maxRecDepth 100000
set_option linter.unusedVariables false
set_option linter.unusedSimpArgs false

theorem bok_empty (r u t : Int) : bokB r u 0 t = fullOk r u t := by
  unfold bokB fullOk
  cases h : winB u
  · cases rateB r <;> rfl
  · have n := win_num h
    have e : lvlB u 0 = true := by unfold lvlB; rw [decide_eq_true (by omega), decide_eq_true (by omega)]; rfl
    rw [e]
    cases rateB r <;> cases timeB t <;> rfl
set_option maxHeartbeats 2000000 in
theorem implFull_any (r u t : Int) (w : World) : Calls Try.prog 31 #[.int .i64 r, .int .i64 u, .int .i64 t] w fun e w' => e = .returned (.tuple #[bkV (fullOf r u t), .bool (fullOk r u t)]) ∧ Below w.heap.size w w' := by
  have hk := bok_empty r u t
  cases h : fullOk r u t
  · have e0 : fullOf r u t = (0, 0, 0, 0) := by unfold fullOf; rw [h]; rfl
    rw [e0]
    rw [h] at hk
    clear e0 h
    go_enter Try.func31, Try.ntmps31
    go_wp2_with (first
      | (go_at_call 33; refine (implBucketOk_any _ _ _ _ _).mono ?_; rintro e w2 ⟨rfl, hb2⟩; rw [hk]; have kc := below_cells4 hb2; have kf := below_frozens4 hb2; have zb := hb2.size; have hbw := start2 hb2; have y1 := size2b hb2; have y0 := Nat.lt_of_succ_lt y1))
    refine bodyPost_ret (results_two rfl _ _ _ [.int .i64 0, .int .i64 0, .int .i64 0, .int .i64 0] rfl (cells_set4 (u0 := .int .i64 0) (u1 := .int .i64 0) (u2 := .int .i64 0) (u3 := .int .i64 0) _ _ _ _ ?_ ?_ ?_ ?_) Try.underlying49 rfl (by kernel_rfl)) rfl ?_
    · go_simp
    · go_simp
    · go_simp
    · go_simp
    exact ⟨rfl, by go_grown⟩
  · have e0 : fullOf r u t = (r, u, 1000000000 * u, t) := by unfold fullOf; rw [h]; rfl
    rw [e0]
    rw [h] at hk
    have n2 : 0 ≤ u ∧ u ≤ 1000000000 := (bok_num hk).2.1
    clear e0 h
    go_enter Try.func31, Try.ntmps31
    go_wp2_with (first
      | (go_at_call 33; refine (implBucketOk_any _ _ _ _ _).mono ?_; rintro e w2 ⟨rfl, hb2⟩; rw [hk]; have kc := below_cells4 hb2; have kf := below_frozens4 hb2; have zb := hb2.size; have hbw := start2 hb2; have y1 := size2b hb2; have y0 := Nat.lt_of_succ_lt y1)
      | (go_at_call 70; refine (ifull_any _ _ _ _ _ n2).mono ?_; rintro e w3 ⟨rfl, hb3⟩; have kc := fun b o h => (below_cells4 hb3 b o (Nat.lt_of_lt_of_le h zb)).trans (kc b o h); have kf := fun b o h => (below_frozens4 hb3 b o (Nat.lt_of_lt_of_le h zb)).trans (kf b o h); have hbw := below_two hbw hb3; have y1 := Nat.lt_of_lt_of_le y1 hb3.size; have y0 := Nat.lt_of_succ_lt y1))
    refine bodyPost_ret (results_two rfl _ _ _ [.int .i64 r, .int .i64 u, .int .i64 (1000000000 * u), .int .i64 t] rfl (cells_set4 (u0 := .int .i64 0) (u1 := .int .i64 0) (u2 := .int .i64 0) (u3 := .int .i64 0) _ _ _ _ ?_ ?_ ?_ ?_) Try.underlying49 rfl (by kernel_rfl)) rfl ?_
    · go_simp
    · go_simp
    · go_simp
    · go_simp
    exact ⟨rfl, by go_grown⟩
set_option maxHeartbeats 2000000 in
theorem fillOf_any (r u l t : Int) (w : World) : Calls Try.prog 64 #[.agg #[.int .i64 r, .int .i64 u, .int .i64 l, .int .i64 t]] w fun e w' => e = .returned (.tuple #[.func (.func 83) #[.agg #[.int .i64 r, .int .i64 u, .int .i64 l, .int .i64 t]] #[], .bool (bokB r u l t)]) ∧ Below w.heap.size w w' := by
  have hmf : ∀ (fn : Fn) (first cap : Array Value) (w : World), (Instr.makeFunc fn first cap).run Try.prog w = .ok (.func fn first cap) w := fun _ _ _ _ => rfl
  go_enter Try.func64, Try.ntmps64
  go_wp2
  go_region_held3 (fun w' => w'.cell? ⟨w.heap.size, 0, none⟩ = some (.int .i64 r) ∧ w'.cell? ⟨w.heap.size, 1, none⟩ = some (.int .i64 u) ∧ w'.cell? ⟨w.heap.size, 2, none⟩ = some (.int .i64 l) ∧ w'.cell? ⟨w.heap.size, 3, none⟩ = some (.int .i64 t)) (go_keep)
    (first
      | (go_at_call 33; refine (implBucketOk_any _ _ _ _ _).mono ?_; rintro e w2 ⟨rfl, hb2⟩; have kc := below_cells4 hb2; have c0 : w2.cell? ⟨w.heap.size, 0, none⟩ = some (.int .i64 r) := (kc _ _ (by simp)).trans (by go_simp); have c1 : w2.cell? ⟨w.heap.size, 1, none⟩ = some (.int .i64 u) := (kc _ _ (by simp)).trans (by go_simp); have c2 : w2.cell? ⟨w.heap.size, 2, none⟩ = some (.int .i64 l) := (kc _ _ (by simp)).trans (by go_simp); have c3 : w2.cell? ⟨w.heap.size, 3, none⟩ = some (.int .i64 t) := (kc _ _ (by simp)).trans (by go_simp); have hbw := below_two (w := w) (by go_grown) hb2))
  all_goals go_wp2
  all_goals go_ret2
  all_goals exact ⟨rfl, by go_grown⟩
set_option maxHeartbeats 4000000 in
theorem implTake_any (r u l t now n : Int) (w : World) : Calls Try.prog 29 #[.agg #[.int .i64 r, .int .i64 u, .int .i64 l, .int .i64 t], .int .i64 now, .int .i64 n] w fun e w' => e = .returned (.tuple #[bkV (takeOf r u l t now n), .bool (takeF r u l t now n)]) ∧ Below w.heap.size w w' := by
  unfold takeOf takeF takeOk
  cases h1 : bokB r u l t
  · show Calls _ _ _ _ fun e w' => e = .returned (.tuple #[.agg #[.int .i64 0, .int .i64 0, .int .i64 0, .int .i64 0], .bool false]) ∧ Below w.heap.size w w'
    go_enter Try.func29, Try.ntmps29
    go_wp2_with (first
      | (go_at_call 64; refine (fillOf_any _ _ _ _ _).mono ?_; rintro e w2 ⟨rfl, hb2⟩; rw [h1]; have kc := below_cells4 hb2; have kf := below_frozens4 hb2; have zb := hb2.size; have hbw := start2 hb2; have y1 := size2b hb2; have y0 := Nat.lt_of_succ_lt y1))
    refine bodyPost_ret (results_two rfl _ _ _ [.int .i64 0, .int .i64 0, .int .i64 0, .int .i64 0] rfl (cells_set4 (u0 := .int .i64 0) (u1 := .int .i64 0) (u2 := .int .i64 0) (u3 := .int .i64 0) _ _ _ _ ?_ ?_ ?_ ?_) Try.underlying49 rfl (by kernel_rfl)) rfl ?_
    · go_simp
    · go_simp
    · go_simp
    · go_simp
    exact ⟨rfl, by go_grown⟩
  · cases h2 : timeB now
    · show Calls _ _ _ _ fun e w' => e = .returned (.tuple #[.agg #[.int .i64 0, .int .i64 0, .int .i64 0, .int .i64 0], .bool false]) ∧ Below w.heap.size w w'
      go_enter Try.func29, Try.ntmps29
      go_wp2_with (first
        | (go_at_call 64; refine (fillOf_any _ _ _ _ _).mono ?_; rintro e w2 ⟨rfl, hb2⟩; rw [h1]; have kc := below_cells4 hb2; have kf := below_frozens4 hb2; have zb := hb2.size; have hbw := start2 hb2; have y1 := size2b hb2; have y0 := Nat.lt_of_succ_lt y1)
        | (go_at_call 47; refine (itime_any _ _).mono ?_; rintro e w2 ⟨rfl, rfl⟩; rw [h2]))
      refine bodyPost_ret (results_two rfl _ _ _ [.int .i64 0, .int .i64 0, .int .i64 0, .int .i64 0] rfl (cells_set4 (u0 := .int .i64 0) (u1 := .int .i64 0) (u2 := .int .i64 0) (u3 := .int .i64 0) _ _ _ _ ?_ ?_ ?_ ?_) Try.underlying49 rfl (by kernel_rfl)) rfl ?_
      · go_simp
      · go_simp
      · go_simp
      · go_simp
      exact ⟨rfl, by go_grown⟩
    · cases h3 : segB n
      · show Calls _ _ _ _ fun e w' => e = .returned (.tuple #[.agg #[.int .i64 0, .int .i64 0, .int .i64 0, .int .i64 0], .bool false]) ∧ Below w.heap.size w w'
        go_enter Try.func29, Try.ntmps29
        go_wp2_with (first
          | (go_at_call 64; refine (fillOf_any _ _ _ _ _).mono ?_; rintro e w2 ⟨rfl, hb2⟩; rw [h1]; have kc := below_cells4 hb2; have kf := below_frozens4 hb2; have zb := hb2.size; have hbw := start2 hb2; have y1 := size2b hb2; have y0 := Nat.lt_of_succ_lt y1)
          | (go_at_call 47; refine (itime_any _ _).mono ?_; rintro e w2 ⟨rfl, rfl⟩; rw [h2])
          | (go_at_call 65; refine (iseg_any _ _).mono ?_; rintro e w2 ⟨rfl, rfl⟩; rw [h3]))
        refine bodyPost_ret (results_two rfl _ _ _ [.int .i64 0, .int .i64 0, .int .i64 0, .int .i64 0] rfl (cells_set4 (u0 := .int .i64 0) (u1 := .int .i64 0) (u2 := .int .i64 0) (u3 := .int .i64 0) _ _ _ _ ?_ ?_ ?_ ?_) Try.underlying49 rfl (by kernel_rfl)) rfl ?_
        · go_simp
        · go_simp
        · go_simp
        · go_simp
        exact ⟨rfl, by go_grown⟩
      · have n3 := seg_num h3
        obtain ⟨nr, nu, nl, nt⟩ := bok_num h1
        have nf := fill_bounds (now := now) (t := t) nu nl nr.1
        by_cases hlv : 1000000000 * n ≤ fillL r u l t now
        · rw [decide_eq_true hlv, if_pos hlv, Int.mul_comm 1000000000 n]
          show Calls _ _ _ _ fun e w' => e = .returned (.tuple #[.agg #[.int .i64 r, .int .i64 u, .int .i64 (fillL r u l t now - n * 1000000000), .int .i64 (fillT t now)], .bool true]) ∧ Below w.heap.size w w'
          have e5 : IntKind.i64.wrap (n * 1000000000) = n * 1000000000 := by rw [IntKind.wrap_i64]; omega
          have e6 : IntKind.i64.wrap (fillL r u l t now - n * 1000000000) = fillL r u l t now - n * 1000000000 := by rw [IntKind.wrap_i64]; omega
          go_enter Try.func29, Try.ntmps29
          go_wp2_with (first
            | (go_at_call 64; refine (fillOf_any _ _ _ _ _).mono ?_; rintro e w2 ⟨rfl, hb2⟩; rw [h1]; have kc := below_cells4 hb2; have kf := below_frozens4 hb2; have zb := hb2.size; have hbw := start2 hb2; have y1 := size2b hb2; have y0 := Nat.lt_of_succ_lt y1)
            | (go_at_call 47; refine (itime_any _ _).mono ?_; rintro e w2 ⟨rfl, rfl⟩; rw [h2])
            | (go_at_call 65; refine (iseg_any _ _).mono ?_; rintro e w2 ⟨rfl, rfl⟩; rw [h3])
            | (go_at_call 83; refine (ifilled_any _ h1 h2).mono ?_; rintro e w3 ⟨rfl, hb3⟩; have kc := fun b o h => (below_cells4 hb3 b o (Nat.lt_of_lt_of_le h zb)).trans (kc b o h); have kf := fun b o h => (below_frozens4 hb3 b o (Nat.lt_of_lt_of_le h zb)).trans (kf b o h); have hbw := below_two hbw hb3; have y1 := Nat.lt_of_lt_of_le y1 hb3.size; have y0 := Nat.lt_of_succ_lt y1)
            | (go_at_call 66; refine (ihas_any _ _ _ _ _ _ n3).mono ?_; rintro e w4 ⟨rfl, hb4⟩; rw [decide_eq_true hlv]; have hr4 := below_two (w := w3) (by go_grown) hb4; have r0 : w4.cell? ⟨w.heap.size + 1, 0, none⟩ = some (.int .i64 0) := (below_cells4 hr4 _ _ y1).trans ((kc _ _ (by simp)).trans (by go_simp)); have r1 : w4.cell? ⟨w.heap.size + 1, 1, none⟩ = some (.int .i64 0) := (below_cells4 hr4 _ _ y1).trans ((kc _ _ (by simp)).trans (by go_simp)); have r2 : w4.cell? ⟨w.heap.size + 1, 2, none⟩ = some (.int .i64 0) := (below_cells4 hr4 _ _ y1).trans ((kc _ _ (by simp)).trans (by go_simp)); have r3 : w4.cell? ⟨w.heap.size + 1, 3, none⟩ = some (.int .i64 0) := (below_cells4 hr4 _ _ y1).trans ((kc _ _ (by simp)).trans (by go_simp)); have fr : ∀ o : Nat, w4.frozen? ⟨w.heap.size + 1, o, none⟩ = false := fun o => (below_frozens4 hr4 _ _ y1).trans ((kf _ _ (by simp)).trans (by go_simp)); have g0 : w4.cell? ⟨w3.heap.size, 0, none⟩ = some (.int .i64 r) := (below_cells4 hb4 _ _ (by simp)).trans (by go_simp); have g1 : w4.cell? ⟨w3.heap.size, 1, none⟩ = some (.int .i64 u) := (below_cells4 hb4 _ _ (by simp)).trans (by go_simp); have g2 : w4.cell? ⟨w3.heap.size, 2, none⟩ = some (.int .i64 (fillL r u l t now)) := (below_cells4 hb4 _ _ (by simp)).trans (by go_simp); have g3 : w4.cell? ⟨w3.heap.size, 3, none⟩ = some (.int .i64 (fillT t now)) := (below_cells4 hb4 _ _ (by simp)).trans (by go_simp); have fg : ∀ o : Nat, w4.frozen? ⟨w3.heap.size, o, none⟩ = false := fun o => (below_frozens4 hb4 _ _ (by simp)).trans (by go_simp); have hbw := below_two hbw hr4; have z4 := hb4.size; (try simp at z4); have x1 : w3.heap.size < w4.heap.size := (by omega); have x0 : w.heap.size + 1 < w4.heap.size := (by omega); have x2 : w3.heap.size ≠ w.heap.size + 1 := (by omega); have x3 : w.heap.size + 1 ≠ w3.heap.size := (by omega); clear kc kf))
          refine bodyPost_ret (results_two rfl _ _ _ [.int .i64 r, .int .i64 u, .int .i64 (fillL r u l t now - n * 1000000000), .int .i64 (fillT t now)] rfl (cells_set4 (u0 := .int .i64 0) (u1 := .int .i64 0) (u2 := .int .i64 0) (u3 := .int .i64 0) _ _ _ _ ?_ ?_ ?_ ?_) Try.underlying49 rfl (by kernel_rfl)) rfl ?_
          · go_simp
          · go_simp
          · go_simp
          · go_simp
          exact ⟨rfl, by go_grown⟩
        · have hlv' : decide (1000000000 * n ≤ fillL r u l t now) = false := decide_eq_false hlv
          rw [hlv', if_neg hlv]
          show Calls _ _ _ _ fun e w' => e = .returned (.tuple #[.agg #[.int .i64 r, .int .i64 u, .int .i64 (fillL r u l t now), .int .i64 (fillT t now)], .bool false]) ∧ Below w.heap.size w w'
          go_enter Try.func29, Try.ntmps29
          go_wp2_with (first
            | (go_at_call 64; refine (fillOf_any _ _ _ _ _).mono ?_; rintro e w2 ⟨rfl, hb2⟩; rw [h1]; have kc := below_cells4 hb2; have kf := below_frozens4 hb2; have zb := hb2.size; have hbw := start2 hb2; have y1 := size2b hb2; have y0 := Nat.lt_of_succ_lt y1)
            | (go_at_call 47; refine (itime_any _ _).mono ?_; rintro e w2 ⟨rfl, rfl⟩; rw [h2])
            | (go_at_call 65; refine (iseg_any _ _).mono ?_; rintro e w2 ⟨rfl, rfl⟩; rw [h3])
            | (go_at_call 83; refine (ifilled_any _ h1 h2).mono ?_; rintro e w3 ⟨rfl, hb3⟩; have kc := fun b o h => (below_cells4 hb3 b o (Nat.lt_of_lt_of_le h zb)).trans (kc b o h); have kf := fun b o h => (below_frozens4 hb3 b o (Nat.lt_of_lt_of_le h zb)).trans (kf b o h); have hbw := below_two hbw hb3; have y1 := Nat.lt_of_lt_of_le y1 hb3.size; have y0 := Nat.lt_of_succ_lt y1)
            | (go_at_call 66; refine (ihas_any _ _ _ _ _ _ n3).mono ?_; rintro e w4 ⟨rfl, hb4⟩; rw [hlv']; have hr4 := below_two (w := w3) (by go_grown) hb4; have r0 : w4.cell? ⟨w.heap.size + 1, 0, none⟩ = some (.int .i64 0) := (below_cells4 hr4 _ _ y1).trans ((kc _ _ (by simp)).trans (by go_simp)); have r1 : w4.cell? ⟨w.heap.size + 1, 1, none⟩ = some (.int .i64 0) := (below_cells4 hr4 _ _ y1).trans ((kc _ _ (by simp)).trans (by go_simp)); have r2 : w4.cell? ⟨w.heap.size + 1, 2, none⟩ = some (.int .i64 0) := (below_cells4 hr4 _ _ y1).trans ((kc _ _ (by simp)).trans (by go_simp)); have r3 : w4.cell? ⟨w.heap.size + 1, 3, none⟩ = some (.int .i64 0) := (below_cells4 hr4 _ _ y1).trans ((kc _ _ (by simp)).trans (by go_simp)); have fr : ∀ o : Nat, w4.frozen? ⟨w.heap.size + 1, o, none⟩ = false := fun o => (below_frozens4 hr4 _ _ y1).trans ((kf _ _ (by simp)).trans (by go_simp)); have g0 : w4.cell? ⟨w3.heap.size, 0, none⟩ = some (.int .i64 r) := (below_cells4 hb4 _ _ (by simp)).trans (by go_simp); have g1 : w4.cell? ⟨w3.heap.size, 1, none⟩ = some (.int .i64 u) := (below_cells4 hb4 _ _ (by simp)).trans (by go_simp); have g2 : w4.cell? ⟨w3.heap.size, 2, none⟩ = some (.int .i64 (fillL r u l t now)) := (below_cells4 hb4 _ _ (by simp)).trans (by go_simp); have g3 : w4.cell? ⟨w3.heap.size, 3, none⟩ = some (.int .i64 (fillT t now)) := (below_cells4 hb4 _ _ (by simp)).trans (by go_simp); have fg : ∀ o : Nat, w4.frozen? ⟨w3.heap.size, o, none⟩ = false := fun o => (below_frozens4 hb4 _ _ (by simp)).trans (by go_simp); have hbw := below_two hbw hr4; have z4 := hb4.size; (try simp at z4); have x1 : w3.heap.size < w4.heap.size := (by omega); have x0 : w.heap.size + 1 < w4.heap.size := (by omega); have x2 : w3.heap.size ≠ w.heap.size + 1 := (by omega); have x3 : w.heap.size + 1 ≠ w3.heap.size := (by omega); clear kc kf))
          refine bodyPost_ret (results_two rfl _ _ _ [.int .i64 r, .int .i64 u, .int .i64 (fillL r u l t now), .int .i64 (fillT t now)] rfl (cells_set4 (u0 := .int .i64 0) (u1 := .int .i64 0) (u2 := .int .i64 0) (u3 := .int .i64 0) _ _ _ _ ?_ ?_ ?_ ?_) Try.underlying49 rfl (by kernel_rfl)) rfl ?_
          · go_simp
          · go_simp
          · go_simp
          · go_simp
          exact ⟨rfl, by go_grown⟩
set_option maxHeartbeats 4000000 in
theorem implWhen_any (r u l t n : Int) (w : World) : Calls Try.prog 35 #[.agg #[.int .i64 r, .int .i64 u, .int .i64 l, .int .i64 t], .int .i64 n] w fun e w' => e = .returned (.int .i64 (whenOf r u l t n)) ∧ Below w.heap.size w w' := by
  cases h1 : bokB r u l t
  · rw [when_no (by unfold whenOk; rw [h1]; rfl)]
    go_enter Try.func35, Try.ntmps35
    go_wp2_with (first
      | (go_at_call 33; refine (implBucketOk_any _ _ _ _ _).mono ?_; rintro e w2 ⟨rfl, hb2⟩; rw [h1]; have kc := below_cells4 hb2; have kf := below_frozens4 hb2; have zb := hb2.size; have hbw := start1 hb2; have y0 := size1b hb2))
    go_ret
    exact ⟨rfl, hbw⟩
  · cases h3 : segB n
    · rw [when_no (by unfold whenOk; rw [h1, h3]; rfl)]
      go_enter Try.func35, Try.ntmps35
      go_wp2_with (first
        | (go_at_call 33; refine (implBucketOk_any _ _ _ _ _).mono ?_; rintro e w2 ⟨rfl, hb2⟩; rw [h1]; have kc := below_cells4 hb2; have kf := below_frozens4 hb2; have zb := hb2.size; have hbw := start1 hb2; have y0 := size1b hb2)
        | (go_at_call 65; refine (iseg_any _ _).mono ?_; rintro e w2 ⟨rfl, rfl⟩; rw [h3]))
      go_ret
      exact ⟨rfl, hbw⟩
    · have n3 := seg_num h3
      obtain ⟨nr, nu, nl, nt⟩ := bok_num h1
      have hw : whenOf r u l t n = (if 1000000000 * n - l ≤ 0 then t else if u < n ∨ r = 0 then 1000000000000000 else min 1000000000000000 (t + (1000000000 * n - l + r - 1) / r)) := by unfold whenOf whenOk; rw [h1, h3]; rfl
      by_cases hm : 1000000000 * n - l ≤ 0
      · rw [hw, if_pos hm]
        have hlv : 1000000000 * n ≤ l := by omega
        clear hw
        go_enter Try.func35, Try.ntmps35
        go_wp2_with (first
          | (go_at_call 33; refine (implBucketOk_any _ _ _ _ _).mono ?_; rintro e w2 ⟨rfl, hb2⟩; rw [h1]; have kc := below_cells4 hb2; have kf := below_frozens4 hb2; have zb := hb2.size; have hbw := start1 hb2; have y0 := size1b hb2)
          | (go_at_call 65; refine (iseg_any _ _).mono ?_; rintro e w2 ⟨rfl, rfl⟩; rw [h3])
          | (go_at_call 66; refine (ihas_any _ _ _ _ _ _ n3).mono ?_; rintro e w4 ⟨rfl, hb4⟩; rw [decide_eq_true hlv]; have kc := fun b o h => (below_cells4 hb4 b o (Nat.lt_of_lt_of_le h zb)).trans (kc b o h); have hbw := below_two hbw hb4; have y0 := Nat.lt_of_lt_of_le y0 hb4.size))
        go_ret
        exact ⟨rfl, hbw⟩
      · rw [hw, if_neg hm]
        have hlv : decide (1000000000 * n ≤ l) = false := decide_eq_false (by omega)
        clear hw
        by_cases hu : u < n
        · rw [if_pos (.inl hu)]
          go_enter Try.func35, Try.ntmps35
          go_wp2_with (first
            | (go_at_call 33; refine (implBucketOk_any _ _ _ _ _).mono ?_; rintro e w2 ⟨rfl, hb2⟩; rw [h1]; have kc := below_cells4 hb2; have kf := below_frozens4 hb2; have zb := hb2.size; have hbw := start1 hb2; have y0 := size1b hb2)
            | (go_at_call 65; refine (iseg_any _ _).mono ?_; rintro e w2 ⟨rfl, rfl⟩; rw [h3])
            | (go_at_call 66; refine (ihas_any _ _ _ _ _ _ n3).mono ?_; rintro e w4 ⟨rfl, hb4⟩; rw [hlv]; have kc := fun b o h => (below_cells4 hb4 b o (Nat.lt_of_lt_of_le h zb)).trans (kc b o h); have hbw := below_two hbw hb4; have y0 := Nat.lt_of_lt_of_le y0 hb4.size))
          go_ret
          exact ⟨rfl, hbw⟩
        · have hu' : decide (u < n) = false := decide_eq_false hu
          by_cases hr : r = 0
          · rw [if_pos (.inr hr)]
            subst hr
            go_enter Try.func35, Try.ntmps35
            go_wp2_with (first
              | (go_at_call 33; refine (implBucketOk_any _ _ _ _ _).mono ?_; rintro e w2 ⟨rfl, hb2⟩; rw [h1]; have kc := below_cells4 hb2; have kf := below_frozens4 hb2; have zb := hb2.size; have hbw := start1 hb2; have y0 := size1b hb2)
              | (go_at_call 65; refine (iseg_any _ _).mono ?_; rintro e w2 ⟨rfl, rfl⟩; rw [h3])
              | (go_at_call 66; refine (ihas_any _ _ _ _ _ _ n3).mono ?_; rintro e w4 ⟨rfl, hb4⟩; rw [hlv]; have kc := fun b o h => (below_cells4 hb4 b o (Nat.lt_of_lt_of_le h zb)).trans (kc b o h); have hbw := below_two hbw hb4; have y0 := Nat.lt_of_lt_of_le y0 hb4.size))
            go_ret
            exact ⟨rfl, hbw⟩
          · rw [if_neg (by omega)]
            have hr' : (r == 0) = false := by simp [hr]
            have x0 : 0 ≤ 1000000000 * n - l + r - 1 := by omega
            have q0 : 0 ≤ (1000000000 * n - l + r - 1) / r := Int.ediv_nonneg x0 nr.1
            have q1 : (1000000000 * n - l + r - 1) / r ≤ 1000000000 * n - l + r - 1 := Int.ediv_le_self _ x0
            have e3 : (1000000000 * n - l + r - 1).tdiv r = (1000000000 * n - l + r - 1) / r := Int.tdiv_eq_ediv_of_nonneg x0
            rw [Int.mul_comm 1000000000 n] at x0 q0 q1 e3
            rw [Int.mul_comm 1000000000 n]
            have e0 : IntKind.i64.wrap (n * 1000000000) = n * 1000000000 := by rw [IntKind.wrap_i64]; omega
            have e00 : IntKind.i64.wrap (n * 1000000000 - l) = n * 1000000000 - l := by rw [IntKind.wrap_i64]; omega
            have e1 : IntKind.i64.wrap (n * 1000000000 - l + r) = n * 1000000000 - l + r := by rw [IntKind.wrap_i64]; omega
            have e2 : IntKind.i64.wrap (n * 1000000000 - l + r - 1) = n * 1000000000 - l + r - 1 := by rw [IntKind.wrap_i64]; omega
            obtain ⟨Q, hQ⟩ : ∃ Q, (n * 1000000000 - l + r - 1) / r = Q := ⟨_, rfl⟩
            rw [hQ] at e3 q0 q1
            rw [hQ]
            have e4 : IntKind.i64.wrap Q = Q := by rw [IntKind.wrap_i64]; omega
            have e5 : IntKind.i64.wrap (t + Q) = t + Q := by rw [IntKind.wrap_i64]; omega
            clear hQ
            rcases Int.lt_or_le 1000000000000000 (t + Q) with hq | hq
            · rw [Int.min_eq_left (Int.le_of_lt hq)]
              go_enter Try.func35, Try.ntmps35
              go_wp2_with (first
                | (go_at_call 33; refine (implBucketOk_any _ _ _ _ _).mono ?_; rintro e w2 ⟨rfl, hb2⟩; rw [h1]; have kc := below_cells4 hb2; have kf := below_frozens4 hb2; have zb := hb2.size; have hbw := start1 hb2; have y0 := size1b hb2)
                | (go_at_call 65; refine (iseg_any _ _).mono ?_; rintro e w2 ⟨rfl, rfl⟩; rw [h3])
                | (go_at_call 66; refine (ihas_any _ _ _ _ _ _ n3).mono ?_; rintro e w4 ⟨rfl, hb4⟩; rw [hlv]; have kc := fun b o h => (below_cells4 hb4 b o (Nat.lt_of_lt_of_le h zb)).trans (kc b o h); have hbw := below_two hbw hb4; have y0 := Nat.lt_of_lt_of_le y0 hb4.size))
              go_ret
              exact ⟨rfl, hbw⟩
            · rw [Int.min_eq_right hq]
              go_enter Try.func35, Try.ntmps35
              go_wp2_with (first
                | (go_at_call 33; refine (implBucketOk_any _ _ _ _ _).mono ?_; rintro e w2 ⟨rfl, hb2⟩; rw [h1]; have kc := below_cells4 hb2; have kf := below_frozens4 hb2; have zb := hb2.size; have hbw := start1 hb2; have y0 := size1b hb2)
                | (go_at_call 65; refine (iseg_any _ _).mono ?_; rintro e w2 ⟨rfl, rfl⟩; rw [h3])
                | (go_at_call 66; refine (ihas_any _ _ _ _ _ _ n3).mono ?_; rintro e w4 ⟨rfl, hb4⟩; rw [hlv]; have kc := fun b o h => (below_cells4 hb4 b o (Nat.lt_of_lt_of_le h zb)).trans (kc b o h); have hbw := below_two hbw hb4; have y0 := Nat.lt_of_lt_of_le y0 hb4.size))
              go_ret
              exact ⟨rfl, hbw⟩
theorem pair_var {w w3 : World} {c : Nat} {r u l t : Int} (d0 : w3.cell? ⟨c, 0, none⟩ = some (.int .i64 0)) (d1 : w3.cell? ⟨c, 1, none⟩ = some (.int .i64 0)) (d2 : w3.cell? ⟨c, 2, none⟩ = some (.int .i64 0)) (d3 : w3.cell? ⟨c, 3, none⟩ = some (.int .i64 0))
    (fb : ∀ o : Nat, w3.frozen? ⟨c, o, none⟩ = false) (hb : Below w.heap.size w w3) (yc : c < w3.heap.size) : Pair4 w (w3.alloc (.cells #[.int .i64 r, .int .i64 u, .int .i64 l, .int .i64 t] 49)) w3.heap.size c r u l t :=
  have hr : Below w3.heap.size w3 (w3.alloc (.cells #[.int .i64 r, .int .i64 u, .int .i64 l, .int .i64 t] 49)) := by go_grown
  have e := below_cells4 hr
  have f := below_frozens4 hr
  ⟨by go_simp, by go_simp, by go_simp, by go_simp, (e _ _ yc).trans d0, (e _ _ yc).trans d1, (e _ _ yc).trans d2, (e _ _ yc).trans d3, fun o => by go_simp, fun o => (f _ _ yc).trans (fb o), below_two hb hr, by simp, by simp; omega, hb.size, by omega⟩
end Go.Proofs.Ytohenfogiegkmab

/- What impl's buckets answer. -/
import Derived.Test.YtohenfogiegkmacImplBuckB
namespace Go.Proofs.Ytohenfogiegkmac
open Go.ChangeShapes Go.WideShapes Go.ChangeAt Go.RowKit
set_option maxRecDepth 100000
set_option linter.unusedVariables false
set_option linter.unusedSimpArgs false

theorem bok_empty (r u t : Int) : bokB r u 0 t = fullOk r u t := by
  unfold bokB fullOk
  cases h : winB u
  · cases rateB r <;> rfl
  · have n := win_num h
    have e : lvlB u 0 = true := by unfold lvlB; rw [decide_eq_true (by omega), decide_eq_true (by omega)]; rfl
    rw [e]
    cases rateB r <;> cases timeB t <;> rfl
set_option maxHeartbeats 2000000 in
theorem fillOf_any (r u l t : Int) (w : World) : Calls Try.prog 53 #[.agg #[.int .i64 r, .int .i64 u, .int .i64 l, .int .i64 t]] w fun e w' => e = .returned (.tuple #[.func (.func 108) #[.agg #[.int .i64 r, .int .i64 u, .int .i64 l, .int .i64 t]] #[], .bool (bokB r u l t)]) ∧ Below w.heap.size w w' := by
  have hmf : ∀ (fn : Fn) (first cap : Array Value) (w : World), (Instr.makeFunc fn first cap).run Try.prog w = .ok (.func fn first cap) w := fun _ _ _ _ => rfl
  go_enter Try.func53, Try.ntmps53
  go_wp2
  go_region_held3 (fun w' => w'.cell? ⟨w.heap.size, 0, none⟩ = some (.int .i64 r) ∧ w'.cell? ⟨w.heap.size, 1, none⟩ = some (.int .i64 u) ∧ w'.cell? ⟨w.heap.size, 2, none⟩ = some (.int .i64 l) ∧ w'.cell? ⟨w.heap.size, 3, none⟩ = some (.int .i64 t)) (go_keep)
    (first
      | (go_at_call 17; refine (implBucketOk_any _ _ _ _ _).mono ?_; rintro e w2 ⟨rfl, hb2⟩; have kc := below_cells4 hb2; have c0 : w2.cell? ⟨w.heap.size, 0, none⟩ = some (.int .i64 r) := (kc _ _ (by simp)).trans (by go_simp); have c1 : w2.cell? ⟨w.heap.size, 1, none⟩ = some (.int .i64 u) := (kc _ _ (by simp)).trans (by go_simp); have c2 : w2.cell? ⟨w.heap.size, 2, none⟩ = some (.int .i64 l) := (kc _ _ (by simp)).trans (by go_simp); have c3 : w2.cell? ⟨w.heap.size, 3, none⟩ = some (.int .i64 t) := (kc _ _ (by simp)).trans (by go_simp); have hbw := below_two (w := w) (by go_grown) hb2))
  all_goals go_wp2
  all_goals go_ret2
  all_goals exact ⟨rfl, by go_grown⟩
set_option maxHeartbeats 2000000 in
theorem implFill_any (r u l t now : Int) (w : World) : Calls Try.prog 11 #[.agg #[.int .i64 r, .int .i64 u, .int .i64 l, .int .i64 t], .int .i64 now] w fun e w' => e = .returned (bkV (fillOf r u l t now)) ∧ Below w.heap.size w w' := by
  unfold fillOf
  cases h1 : bokB r u l t
  · show Calls _ _ _ _ fun e w' => e = .returned (.agg #[.int .i64 0, .int .i64 0, .int .i64 0, .int .i64 0]) ∧ Below w.heap.size w w'
    go_enter Try.func11, Try.ntmps11
    go_wp2_with (first
      | (go_at_call 53; refine (fillOf_any _ _ _ _ _).mono ?_; rintro e w2 ⟨rfl, hb2⟩; rw [h1]; have kc := below_cells4 hb2; have kf := below_frozens4 hb2; have zb := hb2.size; have hbw := start2 hb2; have y1 := size2b hb2; have y0 := Nat.lt_of_succ_lt y1))
    refine bodyPost_ret (results_one rfl _ _ _ [.int .i64 0, .int .i64 0, .int .i64 0, .int .i64 0] rfl (cells_set4 (u0 := .int .i64 0) (u1 := .int .i64 0) (u2 := .int .i64 0) (u3 := .int .i64 0) _ _ _ _ ?_ ?_ ?_ ?_) Try.underlying25 rfl (by kernel_rfl)) rfl ?_
    · go_simp
    · go_simp
    · go_simp
    · go_simp
    exact ⟨rfl, by go_grown⟩
  · cases h2 : timeB now
    · show Calls _ _ _ _ fun e w' => e = .returned (.agg #[.int .i64 0, .int .i64 0, .int .i64 0, .int .i64 0]) ∧ Below w.heap.size w w'
      go_enter Try.func11, Try.ntmps11
      go_wp2_with (first
        | (go_at_call 53; refine (fillOf_any _ _ _ _ _).mono ?_; rintro e w2 ⟨rfl, hb2⟩; rw [h1]; have kc := below_cells4 hb2; have kf := below_frozens4 hb2; have zb := hb2.size; have hbw := start2 hb2; have y1 := size2b hb2; have y0 := Nat.lt_of_succ_lt y1)
        | (go_at_call 54; refine (itime_any _ _).mono ?_; rintro e w2 ⟨rfl, rfl⟩; rw [h2]))
      refine bodyPost_ret (results_one rfl _ _ _ [.int .i64 0, .int .i64 0, .int .i64 0, .int .i64 0] rfl (cells_set4 (u0 := .int .i64 0) (u1 := .int .i64 0) (u2 := .int .i64 0) (u3 := .int .i64 0) _ _ _ _ ?_ ?_ ?_ ?_) Try.underlying25 rfl (by kernel_rfl)) rfl ?_
      · go_simp
      · go_simp
      · go_simp
      · go_simp
      exact ⟨rfl, by go_grown⟩
    · show Calls _ _ _ _ fun e w' => e = .returned (.agg #[.int .i64 r, .int .i64 u, .int .i64 (fillL r u l t now), .int .i64 (fillT t now)]) ∧ Below w.heap.size w w'
      go_enter Try.func11, Try.ntmps11
      go_wp2_with (first
        | (go_at_call 53; refine (fillOf_any _ _ _ _ _).mono ?_; rintro e w2 ⟨rfl, hb2⟩; rw [h1]; have kc := below_cells4 hb2; have kf := below_frozens4 hb2; have zb := hb2.size; have hbw := start2 hb2; have y1 := size2b hb2; have y0 := Nat.lt_of_succ_lt y1)
        | (go_at_call 54; refine (itime_any _ _).mono ?_; rintro e w2 ⟨rfl, rfl⟩; rw [h2])
        | (go_at_call 108; refine (ifilled_any _ h1 h2).mono ?_; rintro e w3 ⟨rfl, hb3⟩; have kc := fun b o h => (below_cells4 hb3 b o (Nat.lt_of_lt_of_le h zb)).trans (kc b o h); have kf := fun b o h => (below_frozens4 hb3 b o (Nat.lt_of_lt_of_le h zb)).trans (kf b o h); have hbw := below_two hbw hb3; have y1 := Nat.lt_of_lt_of_le y1 hb3.size; have y0 := Nat.lt_of_succ_lt y1))
      refine bodyPost_ret (results_one rfl _ _ _ [.int .i64 r, .int .i64 u, .int .i64 (fillL r u l t now), .int .i64 (fillT t now)] rfl (cells_set4 (u0 := .int .i64 0) (u1 := .int .i64 0) (u2 := .int .i64 0) (u3 := .int .i64 0) _ _ _ _ ?_ ?_ ?_ ?_) Try.underlying25 rfl (by kernel_rfl)) rfl ?_
      · go_simp
      · go_simp
      · go_simp
      · go_simp
      exact ⟨rfl, by go_grown⟩
theorem pair_var {w w3 : World} {c : Nat} {r u l t : Int} (d0 : w3.cell? ⟨c, 0, none⟩ = some (.int .i64 0)) (d1 : w3.cell? ⟨c, 1, none⟩ = some (.int .i64 0)) (d2 : w3.cell? ⟨c, 2, none⟩ = some (.int .i64 0)) (d3 : w3.cell? ⟨c, 3, none⟩ = some (.int .i64 0))
    (fb : ∀ o : Nat, w3.frozen? ⟨c, o, none⟩ = false) (hb : Below w.heap.size w w3) (yc : c < w3.heap.size) : Pair4 w (w3.alloc (.cells #[.int .i64 r, .int .i64 u, .int .i64 l, .int .i64 t] 25)) w3.heap.size c r u l t :=
  have hr : Below w3.heap.size w3 (w3.alloc (.cells #[.int .i64 r, .int .i64 u, .int .i64 l, .int .i64 t] 25)) := by go_grown
  have e := below_cells4 hr
  have f := below_frozens4 hr
  ⟨by go_simp, by go_simp, by go_simp, by go_simp, (e _ _ yc).trans d0, (e _ _ yc).trans d1, (e _ _ yc).trans d2, (e _ _ yc).trans d3, fun o => by go_simp, fun o => (f _ _ yc).trans (fb o), below_two hb hr, by simp, by simp; omega, hb.size, by omega⟩
set_option maxHeartbeats 4000000 in
theorem implReset_any (r u l t r' u' now : Int) (w : World) : Calls Try.prog 15 #[.agg #[.int .i64 r, .int .i64 u, .int .i64 l, .int .i64 t], .int .i64 r', .int .i64 u', .int .i64 now] w fun e w' => e = .returned (bkV (resetOf r u l t r' u' now)) ∧ Below w.heap.size w w' := by
  cases h1 : bokB r u l t
  · rw [reset_no (by unfold resetOk; rw [h1]; rfl)]
    go_enter Try.func15, Try.ntmps15
    go_wp2_with (first
      | (go_at_call 53; refine (fillOf_any _ _ _ _ _).mono ?_; rintro e w2 ⟨rfl, hb2⟩; rw [h1]; have kc := below_cells4 hb2; have kf := below_frozens4 hb2; have zb := hb2.size; have hbw := start2 hb2; have y1 := size2b hb2; have y0 := Nat.lt_of_succ_lt y1))
    refine bodyPost_ret (results_one rfl _ _ _ [.int .i64 0, .int .i64 0, .int .i64 0, .int .i64 0] rfl (cells_set4 (u0 := .int .i64 0) (u1 := .int .i64 0) (u2 := .int .i64 0) (u3 := .int .i64 0) _ _ _ _ ?_ ?_ ?_ ?_) Try.underlying25 rfl (by kernel_rfl)) rfl ?_
    · go_simp
    · go_simp
    · go_simp
    · go_simp
    exact ⟨rfl, by go_grown⟩
  · cases h2 : timeB now
    · rw [reset_no (by unfold resetOk; rw [h2, Bool.and_false])]
      go_enter Try.func15, Try.ntmps15
      go_wp2_with (first
        | (go_at_call 53; refine (fillOf_any _ _ _ _ _).mono ?_; rintro e w2 ⟨rfl, hb2⟩; rw [h1]; have kc := below_cells4 hb2; have kf := below_frozens4 hb2; have zb := hb2.size; have hbw := start2 hb2; have y1 := size2b hb2; have y0 := Nat.lt_of_succ_lt y1)
        | (go_at_call 54; refine (itime_any _ _).mono ?_; rintro e w2 ⟨rfl, rfl⟩; rw [h2]))
      refine bodyPost_ret (results_one rfl _ _ _ [.int .i64 0, .int .i64 0, .int .i64 0, .int .i64 0] rfl (cells_set4 (u0 := .int .i64 0) (u1 := .int .i64 0) (u2 := .int .i64 0) (u3 := .int .i64 0) _ _ _ _ ?_ ?_ ?_ ?_) Try.underlying25 rfl (by kernel_rfl)) rfl ?_
      · go_simp
      · go_simp
      · go_simp
      · go_simp
      exact ⟨rfl, by go_grown⟩
    · cases h4 : rateB r'
      · rw [reset_no (by unfold resetOk; rw [h1, h4]; rfl)]
        go_enter Try.func15, Try.ntmps15
        go_wp2_with (first
          | (go_at_call 53; refine (fillOf_any _ _ _ _ _).mono ?_; rintro e w2 ⟨rfl, hb2⟩; rw [h1]; have kc := below_cells4 hb2; have kf := below_frozens4 hb2; have zb := hb2.size; have hbw := start2 hb2; have y1 := size2b hb2; have y0 := Nat.lt_of_succ_lt y1)
          | (go_at_call 54; refine (itime_any _ _).mono ?_; rintro e w2 ⟨rfl, rfl⟩; rw [h2])
          | (go_at_call 60; refine (irate_any _ _).mono ?_; rintro e w2 ⟨rfl, rfl⟩; rw [h4]))
        refine bodyPost_ret (results_one rfl _ _ _ [.int .i64 0, .int .i64 0, .int .i64 0, .int .i64 0] rfl (cells_set4 (u0 := .int .i64 0) (u1 := .int .i64 0) (u2 := .int .i64 0) (u3 := .int .i64 0) _ _ _ _ ?_ ?_ ?_ ?_) Try.underlying25 rfl (by kernel_rfl)) rfl ?_
        · go_simp
        · go_simp
        · go_simp
        · go_simp
        exact ⟨rfl, by go_grown⟩
      · cases h5 : winB u'
        · rw [reset_no (by unfold resetOk; rw [h1, h4, h5]; rfl)]
          go_enter Try.func15, Try.ntmps15
          go_wp2_with (first
            | (go_at_call 53; refine (fillOf_any _ _ _ _ _).mono ?_; rintro e w2 ⟨rfl, hb2⟩; rw [h1]; have kc := below_cells4 hb2; have kf := below_frozens4 hb2; have zb := hb2.size; have hbw := start2 hb2; have y1 := size2b hb2; have y0 := Nat.lt_of_succ_lt y1)
            | (go_at_call 54; refine (itime_any _ _).mono ?_; rintro e w2 ⟨rfl, rfl⟩; rw [h2])
            | (go_at_call 60; refine (irate_any _ _).mono ?_; rintro e w2 ⟨rfl, rfl⟩; rw [h4])
            | (go_at_call 61; refine (iwin_any _ _).mono ?_; rintro e w2 ⟨rfl, rfl⟩; rw [h5]))
          refine bodyPost_ret (results_one rfl _ _ _ [.int .i64 0, .int .i64 0, .int .i64 0, .int .i64 0] rfl (cells_set4 (u0 := .int .i64 0) (u1 := .int .i64 0) (u2 := .int .i64 0) (u3 := .int .i64 0) _ _ _ _ ?_ ?_ ?_ ?_) Try.underlying25 rfl (by kernel_rfl)) rfl ?_
          · go_simp
          · go_simp
          · go_simp
          · go_simp
          exact ⟨rfl, by go_grown⟩
        · have hw : resetOf r u l t r' u' now = (r', u', min (fillL r u l t now) (1000000000 * u'), fillT t now) := by unfold resetOf resetOk; rw [h1, h4, h5, h2]; rfl
          rw [hw]
          have n5 := win_num h5
          obtain ⟨nr, nu, nl, nt⟩ := bok_num h1
          have nf := fill_bounds (now := now) (t := t) nu nl nr.1
          clear hw
          go_enter Try.func15, Try.ntmps15
          go_upto_region 7 with (first
            | (go_at_call 53; refine (fillOf_any _ _ _ _ _).mono ?_; rintro e w2 ⟨rfl, hb2⟩; rw [h1]; have kc := below_cells4 hb2; have kf := below_frozens4 hb2; have zb := hb2.size; have hbw := start2 hb2; have y1 := size2b hb2; have y0 := Nat.lt_of_succ_lt y1)
            | (go_at_call 54; refine (itime_any _ _).mono ?_; rintro e w2 ⟨rfl, rfl⟩; rw [h2])
            | (go_at_call 60; refine (irate_any _ _).mono ?_; rintro e w2 ⟨rfl, rfl⟩; rw [h4])
            | (go_at_call 61; refine (iwin_any _ _).mono ?_; rintro e w2 ⟨rfl, rfl⟩; rw [h5])
            | (go_at_call 108; refine (ifilled_any _ h1 h2).mono ?_; rintro e w3 ⟨rfl, hb3⟩; have kc := fun b o h => (below_cells4 hb3 b o (Nat.lt_of_lt_of_le h zb)).trans (kc b o h); have kf := fun b o h => (below_frozens4 hb3 b o (Nat.lt_of_lt_of_le h zb)).trans (kf b o h); have hbw := below_two hbw hb3; have y1 := Nat.lt_of_lt_of_le y1 hb3.size; have y0 := Nat.lt_of_succ_lt y1))
          have D : Hid (Pair4 w _ w3.heap.size (w.heap.size + 1) r' u' (fillL r u l t now) (fillT t now)) := pair_var ((kc _ _ (by simp)).trans (by go_simp)) ((kc _ _ (by simp)).trans (by go_simp)) ((kc _ _ (by simp)).trans (by go_simp)) ((kc _ _ (by simp)).trans (by go_simp)) (fun o => (kf _ _ (by simp)).trans (by go_simp)) hbw y1
          clear kc kf zb
          go_cut [] from 42 (fun wd => Pair4 w wd w3.heap.size (w.heap.size + 1) r' u' (min (fillL r u l t now) (1000000000 * u')) (fillT t now))
          case first =>
            go_region_with
              (first
                | (go_at_call 62; refine (ifull_any _ _ _ _ _ n5).mono ?_; rintro e w4 ⟨rfl, hb4⟩; have D4 : Hid (Pair4 w w4 w3.heap.size (w.heap.size + 1) r' u' (fillL r u l t now) (fillT t now)) := D.out.next (below_two (by go_grown) hb4); have c0 := D4.out.c0; have c1 := D4.out.c1; have c2 := D4.out.c2; have c3 := D4.out.c3; have fa := D4.out.fa))
            all_goals (repeat go_step)
            all_goals go_meet
            all_goals exact D4.out.least
          case rest =>
          clear D
          obtain ⟨c0, c1, c2, c3, d0, d1, d2, d3, fa, fb, hbw, y0, y1, ya, ne⟩ := hcut
          go_wp2
          refine bodyPost_ret (results_one rfl _ _ _ [.int .i64 r', .int .i64 u', .int .i64 (min (fillL r u l t now) (1000000000 * u')), .int .i64 (fillT t now)] rfl (cells_set4 (u0 := .int .i64 0) (u1 := .int .i64 0) (u2 := .int .i64 0) (u3 := .int .i64 0) _ _ _ _ ?_ ?_ ?_ ?_) Try.underlying25 rfl (by kernel_rfl)) rfl ?_
          · go_simp
          · go_simp
          · go_simp
          · go_simp
          exact ⟨rfl, by go_grown⟩
end Go.Proofs.Ytohenfogiegkmac

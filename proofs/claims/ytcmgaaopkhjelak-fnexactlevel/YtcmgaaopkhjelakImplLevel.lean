/- What impl.Level answers. -/
import Derived.Test.YtcmgaaopkhjelakSpecLevel
import Derived.Test.YtcmgaaopkhjelakImplIn
import Derived.Test.YtcmgaaopkhjelakWok
import Derived.BigQuiet
namespace Go.Proofs.Ytcmgaaopkhjelak
open Go.ChangeShapes Go.WideShapes Go.ChangeAt Go.RowKit
set_option linter.unusedVariables false

set_option maxHeartbeats 400000 in
theorem implLevel_a (now at' : Int) (w : World) (h1 : timeB now = false) : Calls Try.prog 25 #[.int .i64 now, .int .i64 at'] w fun e w' => e = .returned (.tuple #[.int .i64 (-1), .int .i64 (-1)]) ∧ Below w.heap.size w w' := by
  go_enter Try.func25, Try.ntmps25
  go_wp2_with (first | (go_at_call 31; refine (itime_any _ _).mono ?_; rintro e w2 ⟨rfl, rfl⟩; rw [h1]))
  go_ret2
  exact ⟨rfl, Below.refl _ _⟩
set_option maxHeartbeats 400000 in
theorem implLevel_b (now at' : Int) (w : World) (h1 : timeB now = true) (h2 : timeB at' = false) : Calls Try.prog 25 #[.int .i64 now, .int .i64 at'] w fun e w' => e = .returned (.tuple #[.int .i64 (-1), .int .i64 (-1)]) ∧ Below w.heap.size w w' := by
  go_enter Try.func25, Try.ntmps25
  go_wp2_with (first
    | (go_at_call 31; have g1 := tk; refine (itime_any _ _).mono ?_; rintro e w2 ⟨rfl, rfl⟩; rw [h2])
    | (go_at_call 31; refine (itime_any _ _).mono ?_; rintro e w2 ⟨rfl, rfl⟩; rw [h1]; have tk := h1))
  go_ret2
  exact ⟨rfl, Below.refl _ _⟩
set_option maxHeartbeats 400000 in
theorem implLevel_c (now at' : Int) (w : World) (h1 : timeB now = true) (h2 : timeB at' = true) (h3 : at' < now) : Calls Try.prog 25 #[.int .i64 now, .int .i64 at'] w fun e w' => e = .returned (.tuple #[.int .i64 (-1), .int .i64 (-1)]) ∧ Below w.heap.size w w' := by
  go_enter Try.func25, Try.ntmps25
  go_wp2_with (first
    | (go_at_call 31; have g1 := tk; refine (itime_any _ _).mono ?_; rintro e w2 ⟨rfl, rfl⟩; rw [h2])
    | (go_at_call 31; refine (itime_any _ _).mono ?_; rintro e w2 ⟨rfl, rfl⟩; rw [h1]; have tk := h1))
  go_ret2
  exact ⟨rfl, Below.refl _ _⟩
theorem div_small {x : Int} (k : Int) (hk : 0 < k) (h : 0 ≤ x ∧ x ≤ 1000000000) : x.tdiv k = x / k ∧ 0 ≤ x / k ∧ x / k ≤ 1000000000 := by
  refine ⟨Int.tdiv_eq_ediv_of_nonneg h.1, Int.ediv_nonneg h.1 (by omega), Int.le_trans (Int.ediv_le_self _ h.1) h.2⟩
set_option maxHeartbeats 2000000 in
theorem implLevel_f0 (now at' T N D S R : Int) (w : World) (h1 : timeB now = true) (h2 : timeB at' = true) (h3' : decide (at' < now) = false) (hT : at'.tdiv 1000000 = T) (hN : now.tdiv 1000000 = N) (hD : T - N = D) (n1 : 0 ≤ N) (n2 : N ≤ T) (n3 : T ≤ 1000000000) (d0 : 0 ≤ D) (d1 : D ≤ 1000000000) (c0 : D < 64) (hS : T.tdiv 1 = S) (s0 : 0 ≤ S) (s1 : S ≤ 1000000000) (hR : S.tmod 64 = R) :
    Calls Try.prog 25 #[.int .i64 now, .int .i64 at'] w fun e w' => e = .returned (.tuple #[.int .i64 0, .int .i64 R]) ∧ Below w.heap.size w w' := by
  have k3 : D < 262144 := by omega
  have k2 : D < 4096 := by omega
  go_enter Try.func25, Try.ntmps25
  go_wp2_with (first
    | (go_at_call 31; have g1 := tk; refine (itime_any _ _).mono ?_; rintro e w2 ⟨rfl, rfl⟩; rw [h2])
    | (go_at_call 31; refine (itime_any _ _).mono ?_; rintro e w2 ⟨rfl, rfl⟩; rw [h1]; have tk := h1))
  refine wp_loop_rounds 4 ?_
  rw [rounds_succ]
  go_wp2
  rw [rounds_succ]
  go_wp2
  rw [rounds_succ]
  go_wp2
  rw [rounds_succ]
  go_wp2
  go_quiet (fail)
  go_wp2
  go_ret2
  exact ⟨rfl, below_drews (by go_grown) _⟩
set_option maxHeartbeats 2000000 in
theorem implLevel_f1 (now at' T N D S R : Int) (w : World) (h1 : timeB now = true) (h2 : timeB at' = true) (h3' : decide (at' < now) = false) (hT : at'.tdiv 1000000 = T) (hN : now.tdiv 1000000 = N) (hD : T - N = D) (n1 : 0 ≤ N) (n2 : N ≤ T) (n3 : T ≤ 1000000000) (d0 : 0 ≤ D) (d1 : D ≤ 1000000000) (c0 : 64 ≤ D) (c1 : D < 4096) (hS : T.tdiv 64 = S) (s0 : 0 ≤ S) (s1 : S ≤ 1000000000) (hR : S.tmod 64 = R) :
    Calls Try.prog 25 #[.int .i64 now, .int .i64 at'] w fun e w' => e = .returned (.tuple #[.int .i64 1, .int .i64 R]) ∧ Below w.heap.size w w' := by
  have k3 : D < 262144 := by omega
  have k2 : D < 4096 := by omega
  have k1 : ¬ D < 64 := by omega
  go_enter Try.func25, Try.ntmps25
  go_wp2_with (first
    | (go_at_call 31; have g1 := tk; refine (itime_any _ _).mono ?_; rintro e w2 ⟨rfl, rfl⟩; rw [h2])
    | (go_at_call 31; refine (itime_any _ _).mono ?_; rintro e w2 ⟨rfl, rfl⟩; rw [h1]; have tk := h1))
  refine wp_loop_rounds 3 ?_
  rw [rounds_succ]
  go_wp2
  rw [rounds_succ]
  go_wp2
  rw [rounds_succ]
  go_wp2
  go_quiet (fail)
  go_wp2
  go_ret2
  exact ⟨rfl, below_drews (by go_grown) _⟩
set_option maxHeartbeats 2000000 in
theorem implLevel_f2 (now at' T N D S R : Int) (w : World) (h1 : timeB now = true) (h2 : timeB at' = true) (h3' : decide (at' < now) = false) (hT : at'.tdiv 1000000 = T) (hN : now.tdiv 1000000 = N) (hD : T - N = D) (n1 : 0 ≤ N) (n2 : N ≤ T) (n3 : T ≤ 1000000000) (d0 : 0 ≤ D) (d1 : D ≤ 1000000000) (c0 : 4096 ≤ D) (c1 : D < 262144) (hS : T.tdiv 4096 = S) (s0 : 0 ≤ S) (s1 : S ≤ 1000000000) (hR : S.tmod 64 = R) :
    Calls Try.prog 25 #[.int .i64 now, .int .i64 at'] w fun e w' => e = .returned (.tuple #[.int .i64 2, .int .i64 R]) ∧ Below w.heap.size w w' := by
  have k3 : D < 262144 := by omega
  have k1 : ¬ D < 4096 := by omega
  go_enter Try.func25, Try.ntmps25
  go_wp2_with (first
    | (go_at_call 31; have g1 := tk; refine (itime_any _ _).mono ?_; rintro e w2 ⟨rfl, rfl⟩; rw [h2])
    | (go_at_call 31; refine (itime_any _ _).mono ?_; rintro e w2 ⟨rfl, rfl⟩; rw [h1]; have tk := h1))
  refine wp_loop_rounds 2 ?_
  rw [rounds_succ]
  go_wp2
  rw [rounds_succ]
  go_wp2
  go_quiet (fail)
  go_wp2
  go_ret2
  exact ⟨rfl, below_drews (by go_grown) _⟩
set_option maxHeartbeats 2000000 in
theorem implLevel_f3 (now at' T N D S R : Int) (w : World) (h1 : timeB now = true) (h2 : timeB at' = true) (h3' : decide (at' < now) = false) (hT : at'.tdiv 1000000 = T) (hN : now.tdiv 1000000 = N) (hD : T - N = D) (n1 : 0 ≤ N) (n2 : N ≤ T) (n3 : T ≤ 1000000000) (d0 : 0 ≤ D) (d1 : D ≤ 1000000000) (c0 : 262144 ≤ D) (hS : T.tdiv 262144 = S) (s0 : 0 ≤ S) (s1 : S ≤ 1000000000) (hR : S.tmod 64 = R) :
    Calls Try.prog 25 #[.int .i64 now, .int .i64 at'] w fun e w' => e = .returned (.tuple #[.int .i64 3, .int .i64 R]) ∧ Below w.heap.size w w' := by
  have k1 : ¬ D < 262144 := by omega
  go_enter Try.func25, Try.ntmps25
  go_wp2_with (first
    | (go_at_call 31; have g1 := tk; refine (itime_any _ _).mono ?_; rintro e w2 ⟨rfl, rfl⟩; rw [h2])
    | (go_at_call 31; refine (itime_any _ _).mono ?_; rintro e w2 ⟨rfl, rfl⟩; rw [h1]; have tk := h1))
  refine wp_loop_rounds 1 ?_
  rw [rounds_succ]
  go_wp2
  go_quiet (fail)
  go_wp2
  go_ret2
  exact ⟨rfl, below_drews (by go_grown) _⟩
theorem implLevel_any (now at' : Int) (w : World) : Calls Try.prog 25 #[.int .i64 now, .int .i64 at'] w fun e w' => e = .returned (.tuple #[.int .i64 (levelOf now at').1, .int .i64 (levelOf now at').2]) ∧ Below w.heap.size w w' := by
  cases h1 : timeB now
  · rw [level_no (by unfold levelOk; rw [h1, Bool.false_and, Bool.false_and])]
    exact implLevel_a now at' w h1
  · cases h2 : timeB at'
    · rw [level_no (by unfold levelOk; rw [h1, h2, Bool.and_false, Bool.false_and])]
      exact implLevel_b now at' w h1 h2
    · have n1 : 0 ≤ now ∧ now ≤ 1000000000000000 := by simpa [timeB] using h1
      have n2 : 0 ≤ at' ∧ at' ≤ 1000000000000000 := by simpa [timeB] using h2
      by_cases h3 : now ≤ at'
      · rw [level_yes (by unfold levelOk; rw [h1, h2, decide_eq_true h3, Bool.and_true, Bool.and_true])]
        have b1 : 0 ≤ now / 1000000 := by omega
        have b2 : now / 1000000 ≤ at' / 1000000 := by omega
        have b3 : at' / 1000000 ≤ 1000000000 := by omega
        have e1 := tdiv_pos n2.1 1000000
        have e2 := tdiv_pos n1.1 1000000
        have h3' : decide (at' < now) = false := decide_eq_false (by omega)
        generalize at' / 1000000 = T at *
        generalize now / 1000000 = N at *
        clear n1 n2 h3
        unfold levelFar
        by_cases c0 : T - N < 64
        · rw [if_pos c0]
          exact implLevel_f0 now at' T N _ T _ w h1 h2 h3' e1 e2 rfl b1 b2 b3 (by omega) (by omega) c0 (Int.tdiv_one _) (by omega) b3 (tmod_pos (by omega) _)
        · rw [if_neg c0]
          by_cases c1 : (T - N) / 64 < 64
          · rw [if_pos c1]
            obtain ⟨k1, k2, k3⟩ := div_small (x := T) 64 (by omega) (by omega)
            exact implLevel_f1 now at' T N _ _ _ w h1 h2 h3' e1 e2 rfl b1 b2 b3 (by omega) (by omega) (by omega) (by omega) k1 k2 k3 (tmod_pos k2 _)
          · rw [if_neg c1]
            by_cases c2 : (T - N) / 64 / 64 < 64
            · rw [if_pos c2]
              obtain ⟨k1, k2, k3⟩ := div_small (x := T) 4096 (by omega) (by omega)
              have e : T / 64 / 64 = T / 4096 := by omega
              rw [e]
              exact implLevel_f2 now at' T N _ _ _ w h1 h2 h3' e1 e2 rfl b1 b2 b3 (by omega) (by omega) (by omega) (by omega) k1 k2 k3 (tmod_pos k2 _)
            · rw [if_neg c2]
              obtain ⟨k1, k2, k3⟩ := div_small (x := T) 262144 (by omega) (by omega)
              have e : T / 64 / 64 / 64 = T / 262144 := by omega
              rw [e]
              exact implLevel_f3 now at' T N _ _ _ w h1 h2 h3' e1 e2 rfl b1 b2 b3 (by omega) (by omega) (by omega) k1 k2 k3 (tmod_pos k2 _)
      · rw [level_no (by unfold levelOk; rw [h1, h2, decide_eq_false h3, Bool.and_false])]
        exact implLevel_c now at' w h1 h2 (by omega)
end Go.Proofs.Ytcmgaaopkhjelak

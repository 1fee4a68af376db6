/- What spec.Level answers. -/
import Derived.Test.YtcmgaaopkhjelacSmp
namespace Go.Proofs.Ytcmgaaopkhjelac
open Go.ChangeShapes Go.WideShapes Go.ChangeAt Go.RowKit
set_option linter.unusedVariables false

def levelOk (now at' : Int) : Bool := (timeB now && timeB at') && decide (now ≤ at')
def levelFar (d t : Int) : Int × Int := if d < 64 then (0, t % 64) else if d / 64 < 64 then (1, t / 64 % 64) else if d / 64 / 64 < 64 then (2, t / 64 / 64 % 64) else (3, t / 64 / 64 / 64 % 64)
def levelOf (now at' : Int) : Int × Int := if levelOk now at' = true then levelFar (at' / 1000000 - now / 1000000) (at' / 1000000) else (-1, -1)
theorem level_no {now at' : Int} (h : levelOk now at' = false) : levelOf now at' = (-1, -1) := if_neg (by rw [h]; decide)
theorem level_yes {now at' : Int} (h : levelOk now at' = true) : levelOf now at' = levelFar (at' / 1000000 - now / 1000000) (at' / 1000000) := if_pos h
theorem tdiv_pos {x : Int} (h : 0 ≤ x) (k : Int) : x.tdiv k = x / k := Int.tdiv_eq_ediv_of_nonneg h
theorem tmod_pos {x : Int} (h : 0 ≤ x) (k : Int) : x.tmod k = x % k := Int.tmod_eq_emod_of_nonneg h
set_option maxHeartbeats 400000 in
theorem specLevel_a (now at' : Int) (w : World) (h1 : timeB now = false) : Calls Try.prog 29 #[.int .i64 now, .int .i64 at'] w fun e w' => e = .returned (.tuple #[.int .i64 (-1), .int .i64 (-1)]) ∧ w' = w := by
  go_enter Try.func29, Try.ntmps29
  go_wp2_with (first | (go_at_call 36; refine (time_any _ _).mono ?_; rintro e w2 ⟨rfl, rfl⟩; rw [h1]))
  go_ret2
  exact ⟨rfl, rfl⟩
set_option maxHeartbeats 400000 in
theorem specLevel_b (now at' : Int) (w : World) (h1 : timeB now = true) (h2 : timeB at' = false) : Calls Try.prog 29 #[.int .i64 now, .int .i64 at'] w fun e w' => e = .returned (.tuple #[.int .i64 (-1), .int .i64 (-1)]) ∧ w' = w := by
  go_enter Try.func29, Try.ntmps29
  go_wp2_with (first
    | (go_at_call 36; have g1 := tk; refine (time_any _ _).mono ?_; rintro e w2 ⟨rfl, rfl⟩; rw [h2])
    | (go_at_call 36; refine (time_any _ _).mono ?_; rintro e w2 ⟨rfl, rfl⟩; rw [h1]; have tk := h1))
  go_ret2
  exact ⟨rfl, rfl⟩
set_option maxHeartbeats 400000 in
theorem specLevel_c (now at' : Int) (w : World) (h1 : timeB now = true) (h2 : timeB at' = true) (h3' : at' < now) : Calls Try.prog 29 #[.int .i64 now, .int .i64 at'] w fun e w' => e = .returned (.tuple #[.int .i64 (-1), .int .i64 (-1)]) ∧ w' = w := by
  go_enter Try.func29, Try.ntmps29
  go_wp2_with (first
    | (go_at_call 36; have g1 := tk; refine (time_any _ _).mono ?_; rintro e w2 ⟨rfl, rfl⟩; rw [h2])
    | (go_at_call 36; refine (time_any _ _).mono ?_; rintro e w2 ⟨rfl, rfl⟩; rw [h1]; have tk := h1))
  go_ret2
  exact ⟨rfl, rfl⟩
theorem mul_div64 {x : Int} (h : 0 ≤ x ∧ x ≤ 1000000000) : x.tdiv 64 = x / 64 ∧ 0 ≤ x / 64 ∧ x / 64 ≤ 1000000000 := ⟨Int.tdiv_eq_ediv_of_nonneg h.1, by omega, by omega⟩
set_option maxHeartbeats 2000000 in
theorem specLevel_d (now at' T N : Int) (w : World) (h1 : timeB now = true) (h2 : timeB at' = true) (h3' : decide (at' < now) = false) (hT : at'.tdiv 1000000 = T) (hN : now.tdiv 1000000 = N) (n1 : 0 ≤ N) (n2 : N ≤ T) (n3 : T ≤ 1000000000) :
    Calls Try.prog 29 #[.int .i64 now, .int .i64 at'] w fun e w' => e = .returned (.tuple #[.int .i64 (levelFar (T - N) T).1, .int .i64 (levelFar (T - N) T).2]) ∧ w' = w := by
  by_cases c1 : T - N < 64
  · have e0 : levelFar (T - N) T = (0, T % 64) := if_pos c1
    rw [e0]
    have em : T.tmod 64 = T % 64 := Int.tmod_eq_emod_of_nonneg (by omega)
    clear e0
    go_enter Try.func29, Try.ntmps29
    go_wp2_with (first
      | (go_at_call 36; have g1 := tk; refine (time_any _ _).mono ?_; rintro e w2 ⟨rfl, rfl⟩; rw [h2])
      | (go_at_call 36; refine (time_any _ _).mono ?_; rintro e w2 ⟨rfl, rfl⟩; rw [h1]; have tk := h1))
    refine wp_loop_rounds 1 ?_
    rw [rounds_succ]
    go_wp2
    go_ret2
    exact ⟨rfl, rfl⟩
  · obtain ⟨a1, b1, b2⟩ := mul_div64 (x := T - N) (by omega)
    obtain ⟨a2, b3, b4⟩ := mul_div64 (x := T) (by omega)
    have c1' : (64 : Int) ≤ T - N := by omega
    have L1 : levelFar (T - N) T = (if (T - N) / 64 < 64 then (1, T / 64 % 64) else if (T - N) / 64 / 64 < 64 then (2, T / 64 / 64 % 64) else (3, T / 64 / 64 / 64 % 64)) := if_neg c1
    rw [L1]
    clear L1 c1
    generalize (T - N) / 64 = D1 at *
    generalize T / 64 = T1 at *
    by_cases c2 : D1 < 64
    · rw [if_pos c2]
      have em : T1.tmod 64 = T1 % 64 := Int.tmod_eq_emod_of_nonneg (by omega)
      go_enter Try.func29, Try.ntmps29
      go_wp2_with (first
        | (go_at_call 36; have g1 := tk; refine (time_any _ _).mono ?_; rintro e w2 ⟨rfl, rfl⟩; rw [h2])
        | (go_at_call 36; refine (time_any _ _).mono ?_; rintro e w2 ⟨rfl, rfl⟩; rw [h1]; have tk := h1))
      refine wp_loop_rounds 2 ?_
      rw [rounds_succ]
      go_wp2
      rw [rounds_succ]
      go_wp2
      go_ret2
      exact ⟨rfl, rfl⟩
    · rw [if_neg c2]
      obtain ⟨a3, b5, b6⟩ := mul_div64 (x := D1) (by omega)
      obtain ⟨a4, b7, b8⟩ := mul_div64 (x := T1) (by omega)
      have c2' : (64 : Int) ≤ D1 := by omega
      clear c2
      generalize D1 / 64 = D2 at *
      generalize T1 / 64 = T2 at *
      by_cases c3 : D2 < 64
      · rw [if_pos c3]
        have em : T2.tmod 64 = T2 % 64 := Int.tmod_eq_emod_of_nonneg (by omega)
        go_enter Try.func29, Try.ntmps29
        go_wp2_with (first
          | (go_at_call 36; have g1 := tk; refine (time_any _ _).mono ?_; rintro e w2 ⟨rfl, rfl⟩; rw [h2])
          | (go_at_call 36; refine (time_any _ _).mono ?_; rintro e w2 ⟨rfl, rfl⟩; rw [h1]; have tk := h1))
        refine wp_loop_rounds 3 ?_
        rw [rounds_succ]
        go_wp2
        rw [rounds_succ]
        go_wp2
        rw [rounds_succ]
        go_wp2
        go_ret2
        exact ⟨rfl, rfl⟩
      · rw [if_neg c3]
        obtain ⟨a5, b9, b10⟩ := mul_div64 (x := D2) (by omega)
        obtain ⟨a6, b11, b12⟩ := mul_div64 (x := T2) (by omega)
        have c3' : (64 : Int) ≤ D2 := by omega
        clear c3
        generalize D2 / 64 = D3 at *
        generalize T2 / 64 = T3 at *
        have em : T3.tmod 64 = T3 % 64 := Int.tmod_eq_emod_of_nonneg (by omega)
        go_enter Try.func29, Try.ntmps29
        go_wp2_with (first
          | (go_at_call 36; have g1 := tk; refine (time_any _ _).mono ?_; rintro e w2 ⟨rfl, rfl⟩; rw [h2])
          | (go_at_call 36; refine (time_any _ _).mono ?_; rintro e w2 ⟨rfl, rfl⟩; rw [h1]; have tk := h1))
        refine wp_loop_rounds 4 ?_
        rw [rounds_succ]
        go_wp2
        rw [rounds_succ]
        go_wp2
        rw [rounds_succ]
        go_wp2
        rw [rounds_succ]
        go_wp2
        go_ret2
        exact ⟨rfl, rfl⟩
theorem specLevel_any (now at' : Int) (w : World) : Calls Try.prog 29 #[.int .i64 now, .int .i64 at'] w fun e w' => e = .returned (.tuple #[.int .i64 (levelOf now at').1, .int .i64 (levelOf now at').2]) ∧ w' = w := by
  cases h1 : timeB now
  · rw [level_no (by unfold levelOk; rw [h1, Bool.false_and, Bool.false_and])]
    exact specLevel_a now at' w h1
  · cases h2 : timeB at'
    · rw [level_no (by unfold levelOk; rw [h1, h2, Bool.and_false, Bool.false_and])]
      exact specLevel_b now at' w h1 h2
    · have n1 : 0 ≤ now ∧ now ≤ 1000000000000000 := by simpa [timeB] using h1
      have n2 : 0 ≤ at' ∧ at' ≤ 1000000000000000 := by simpa [timeB] using h2
      by_cases h3 : now ≤ at'
      · rw [level_yes (by unfold levelOk; rw [h1, h2, decide_eq_true h3, Bool.and_true, Bool.and_true])]
        exact specLevel_d now at' (at' / 1000000) (now / 1000000) w h1 h2 (decide_eq_false (by omega)) (tdiv_pos n2.1 _) (tdiv_pos n1.1 _) (by omega) (by omega) (by omega)
      · rw [level_no (by unfold levelOk; rw [h1, h2, decide_eq_false h3, Bool.and_false])]
        exact specLevel_c now at' w h1 h2 (by omega)
end Go.Proofs.Ytcmgaaopkhjelac

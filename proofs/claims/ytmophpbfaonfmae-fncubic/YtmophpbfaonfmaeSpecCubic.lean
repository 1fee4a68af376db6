/- What spec's CubicTime and CubicAt answer. -/
import Derived.Test.YtmophpbfaonfmaeLoss
import Derived.Test.YtmophpbfaonfmaeCubMath
import Derived.Test.YtmophpbfaonfmaeGrpD
namespace Go.Proofs.Ytmophpbfaonfmae
open Go.ChangeShapes Go.WideShapes Go.ChangeAt Go.RowKit
set_option maxRecDepth 100000
set_option linter.unusedVariables false

def cubTimeOf (la og : Int) : Int := if w10B la = true ∧ w10B og = true then cubT la og else -1
def ms10B (x : Int) : Bool := decide (0 ≤ x) && decide (x ≤ 1000000)
def cubAtOf (la og ms : Int) : Int := if (w10B la = true ∧ w10B og = true) ∧ ms10B ms = true then cubAt la og ms else -1
theorem win_num {x : Int} (h : w10B x = true) : 0 ≤ x ∧ x ≤ 1000000000 := by
  unfold w10B at h
  simp only [Bool.and_eq_true, decide_eq_true_eq] at h
  exact h
theorem specCubicTime_any (la og : Int) (w : World) : Calls Try.prog 33 #[.int .i64 la, .int .i64 og] w fun e w' => e = .returned (.int .i64 (cubTimeOf la og)) ∧ w' = w := by
  cases h1 : w10B la
  · rw [show cubTimeOf la og = -1 from if_neg (by rw [h1]; simp)]
    go_enter Try.func33, Try.ntmps33
    go_wp2_with (first | (go_at_call 58; refine (sWin_is h1 _).mono ?_; rintro e w2 ⟨rfl, rfl⟩))
    go_ret
    exact ⟨rfl, rfl⟩
  cases h2 : w10B og
  · rw [show cubTimeOf la og = -1 from if_neg (by rw [h2]; simp)]
    go_enter Try.func33, Try.ntmps33
    go_wp2_with (first | (go_at_call 58; refine (sWin_is h1 _).mono ?_; rintro e w2 ⟨rfl, rfl⟩) | (go_at_call 58; refine (sWin_is h2 _).mono ?_; rintro e w2 ⟨rfl, rfl⟩))
    go_ret
    exact ⟨rfl, rfl⟩
  rw [show cubTimeOf la og = cubT la og from if_pos ⟨h1, h2⟩]
  obtain ⟨l0, l1⟩ := win_num h1
  obtain ⟨o0, o1⟩ := win_num h2
  by_cases h3 : la ≤ og
  · rw [show cubT la og = 0 from if_pos h3]
    go_enter Try.func33, Try.ntmps33
    go_wp2_with (first | (go_at_call 58; refine (sWin_is h1 _).mono ?_; rintro e w2 ⟨rfl, rfl⟩) | (go_at_call 58; refine (sWin_is h2 _).mono ?_; rintro e w2 ⟨rfl, rfl⟩))
    go_ret
    exact ⟨rfl, rfl⟩
  · rw [show cubT la og = rootZ ((la - og) * 2500000000 / 1500) from if_neg h3]
    have r1 : IntKind.i64.wrap (la - og) = la - og := by rw [IntKind.wrap_i64]; omega
    have r2 : IntKind.i64.wrap ((la - og) * 2500000000) = (la - og) * 2500000000 := by rw [IntKind.wrap_i64]; omega
    have ed := tdiv10 (x := (la - og) * 2500000000) (by omega) 1500
    have hn : (la - og) * 2500000000 / 1500 ≤ 9223372036854775807 := by omega
    have r3 : IntKind.i64.wrap ((la - og) * 2500000000 / 1500) = (la - og) * 2500000000 / 1500 := by rw [IntKind.wrap_i64]; omega
    have hr := fun w => specRoot_any _ _ w hn (rootZ_is hn)
    obtain ⟨r, hr'⟩ : ∃ r, rootZ ((la - og) * 2500000000 / 1500) = r := ⟨_, rfl⟩
    rw [hr'] at hr ⊢
    clear hr'
    have HR : Hid (∀ w : World, Calls Try.prog 72 #[.int .i64 ((la - og) * 2500000000 / 1500)] w fun e w' => e = .returned (.int .i64 r) ∧ w' = w) := hr
    clear hr
    go_enter Try.func33, Try.ntmps33
    go_wp2_with (first | (go_at_call 58; refine (sWin_is h1 _).mono ?_; rintro e w2 ⟨rfl, rfl⟩) | (go_at_call 58; refine (sWin_is h2 _).mono ?_; rintro e w2 ⟨rfl, rfl⟩) | (go_at_call 72; (try rw [ed]); refine (HR.out _).mono ?_; rintro e w2 ⟨rfl, rfl⟩))
    go_ret
    exact ⟨rfl, rfl⟩
theorem abs10_up {x : Int} (h : 0 ≤ x) (w : World) : Calls Try.prog 70 #[.int .i64 x] w fun e w' => e = .returned (.int .i64 x) ∧ w' = w := by
  have h' : ¬ x < 0 := by omega
  go_enter Try.func70, Try.ntmps70
  go_wp2
  go_ret
  exact ⟨rfl, rfl⟩
theorem abs10_down {x n : Int} (h : x = -n) (h0 : 0 < n) (h1 : n ≤ 1000000) (w : World) : Calls Try.prog 70 #[.int .i64 x] w fun e w' => e = .returned (.int .i64 n) ∧ w' = w := by
  have h' : x < 0 := by omega
  have e0 : IntKind.i64.wrap (-x) = n := by rw [IntKind.wrap_i64]; omega
  go_enter Try.func70, Try.ntmps70
  go_wp2
  go_ret
  exact ⟨rfl, rfl⟩
theorem md10 {N : Int} (h0 : 0 ≤ N) (h1 : N ≤ 1000000000000000000) (w : World) : Calls Try.prog 71 #[.int .i64 N, .int .i64 6000, .int .i64 10000000000] w fun e w' => e = .returned (.tuple #[.int .i64 (N * 6000 / 10000000000), .bool true]) ∧ w' = w := by
  have hk : mdOk N 6000 10000000000 = true := by unfold mdOk; exact decide_eq_true (by omega)
  have hq : mdQ N 6000 10000000000 = N * 6000 / 10000000000 := by unfold mdQ; rw [hk]; rfl
  have := specMulDiv_any N 6000 10000000000 w (by omega) (by omega) (by omega)
  rwa [hk, hq] at this
theorem specCubicAt_no1 (la og ms : Int) (w : World) (h : cubTimeOf la og = -1) : Calls Try.prog 32 #[.int .i64 la, .int .i64 og, .int .i64 ms] w fun e w' => e = .returned (.int .i64 (-1)) ∧ w' = w := by
  have hT := specCubicTime_any la og
  rw [h] at hT
  go_enter Try.func32, Try.ntmps32
  go_wp2_with (first | (go_at_call 33; refine (hT _).mono ?_; rintro e w2 ⟨rfl, rfl⟩))
  go_ret
  exact ⟨rfl, rfl⟩
theorem ms_is {x : Int} {f : Bool} (h : ms10B x = f) (w : World) : Calls Try.prog 52 #[.int .i64 x, .int .i64 0, .int .i64 1000000] w fun e w' => e = .returned (.bool f) ∧ w' = w := by subst h; exact in_any 0 x 1000000 w
theorem specCubicAt_no2 (la og ms : Int) (w : World) {k : Int} (hk : cubTimeOf la og = k) (h0 : 0 ≤ k) (h : ms10B ms = false) : Calls Try.prog 32 #[.int .i64 la, .int .i64 og, .int .i64 ms] w fun e w' => e = .returned (.int .i64 (-1)) ∧ w' = w := by
  have hT := specCubicTime_any la og
  rw [hk] at hT
  clear hk
  have h0' : ¬ k < 0 := by omega
  go_enter Try.func32, Try.ntmps32
  go_wp2_with (first | (go_at_call 33; refine (hT _).mono ?_; rintro e w2 ⟨rfl, rfl⟩) | (go_at_call 52; refine (ms_is h _).mono ?_; rintro e w2 ⟨rfl, rfl⟩))
  go_ret
  exact ⟨rfl, rfl⟩
set_option maxHeartbeats 1000000 in
theorem specCubicAt_up (la og ms : Int) (w : World) {k : Int} (hk : cubTimeOf la og = k) (h0 : 0 ≤ k) (hm : ms10B ms = true) (hd : k ≤ ms) (l0 : 0 ≤ la) (l1 : la ≤ 1000000000) :
    Calls Try.prog 32 #[.int .i64 la, .int .i64 og, .int .i64 ms] w fun e w' => e = .returned (.int .i64 (min 1000000000 (max 0 (la + cubD (ms - k))))) ∧ w' = w := by
  have hT := specCubicTime_any la og
  rw [hk] at hT
  clear hk
  have h0' : ¬ k < 0 := by omega
  have hm' := hm
  unfold ms10B at hm'
  simp only [Bool.and_eq_true, decide_eq_true_eq] at hm'
  obtain ⟨m0, m1⟩ := hm'
  have r1 : IntKind.i64.wrap (ms - k) = ms - k := by rw [IntKind.wrap_i64]; omega
  obtain ⟨n, hn⟩ : ∃ n, ms - k = n := ⟨_, rfl⟩
  have n0 : 0 ≤ n := by omega
  have n1 : n ≤ 1000000 := by omega
  rw [hn] at r1 ⊢
  have hn' : ¬ n < 0 := by omega
  obtain ⟨⟨a0, a1⟩, b0, b1⟩ := cub_bd n0 n1
  have s2 : IntKind.i64.wrap (n * n) = n * n := by rw [IntKind.wrap_i64]; omega
  have s3 : IntKind.i64.wrap (n * n * n) = n * n * n := by rw [IntKind.wrap_i64]; omega
  have hM := fun w => md10 b0 b1 w
  have hX : cubD n = n * n * n * 6000 / 10000000000 := rfl
  obtain ⟨X, hx⟩ : ∃ X, n * n * n * 6000 / 10000000000 = X := ⟨_, rfl⟩
  have X0 : 0 ≤ X := by omega
  have X1 : X ≤ 1000000000000 := by omega
  rw [hx] at hM hX
  rw [hX]
  clear hX hx
  have s4 : IntKind.i64.wrap (la + X) = la + X := by rw [IntKind.wrap_i64]; omega
  go_enter Try.func32, Try.ntmps32
  go_wp2_with (first | (go_at_call 33; refine (hT _).mono ?_; rintro e w2 ⟨rfl, rfl⟩) | (go_at_call 52; refine (ms_is hm _).mono ?_; rintro e w2 ⟨rfl, rfl⟩) | (go_at_call 70; (try rw [hn]); refine (abs10_up n0 _).mono ?_; rintro e w2 ⟨rfl, rfl⟩) | (go_at_call 71; refine (hM _).mono ?_; rintro e w2 ⟨rfl, rfl⟩) | (go_at_call 43; refine (max10_any _ _ _).mono ?_; rintro e w2 ⟨rfl, rfl⟩) | (go_at_call 44; refine (min10_any _ _ _).mono ?_; rintro e w2 ⟨rfl, rfl⟩))
  go_ret
  exact ⟨rfl, rfl⟩
set_option maxHeartbeats 1000000 in
theorem specCubicAt_down (la og ms : Int) (w : World) {k : Int} (hk : cubTimeOf la og = k) (h0 : 0 ≤ k) (k1 : k ≤ 1000000) (hm : ms10B ms = true) (hd : ms < k) (l0 : 0 ≤ la) (l1 : la ≤ 1000000000) :
    Calls Try.prog 32 #[.int .i64 la, .int .i64 og, .int .i64 ms] w fun e w' => e = .returned (.int .i64 (min 1000000000 (max 0 (la + cubD (ms - k))))) ∧ w' = w := by
  have hT := specCubicTime_any la og
  rw [hk] at hT
  clear hk
  have h0' : ¬ k < 0 := by omega
  have hm' := hm
  unfold ms10B at hm'
  simp only [Bool.and_eq_true, decide_eq_true_eq] at hm'
  obtain ⟨m0, m1⟩ := hm'
  obtain ⟨n, hn⟩ : ∃ n, k - ms = n := ⟨_, rfl⟩
  have n0 : 0 < n := by omega
  have n1 : n ≤ 1000000 := by omega
  have hd' : ms - k = -n := by omega
  have r1 : IntKind.i64.wrap (ms - k) = ms - k := by rw [IntKind.wrap_i64]; omega
  have hneg : ms - k < 0 := by omega
  obtain ⟨⟨a0, a1⟩, b0, b1⟩ := cub_bd (show 0 ≤ n by omega) n1
  have s2 : IntKind.i64.wrap (n * n) = n * n := by rw [IntKind.wrap_i64]; omega
  have s3 : IntKind.i64.wrap (n * n * n) = n * n * n := by rw [IntKind.wrap_i64]; omega
  have hM := fun w => md10 b0 b1 w
  obtain ⟨y, hy⟩ : ∃ y, y = n * n * n % 10000000000 * 4 * 1500 % 10000000000 := ⟨_, rfl⟩
  have hX := cubD_down hy
  rw [← hd'] at hX
  rw [hX]
  clear hX
  have t1 : (n * n * n).tmod 10000000000 = n * n * n % 10000000000 := Int.tmod_eq_emod_of_nonneg b0
  obtain ⟨r, hr⟩ : ∃ r, n * n * n % 10000000000 = r := ⟨_, rfl⟩
  have q0 : 0 ≤ r := by omega
  have q1 : r < 10000000000 := by omega
  obtain ⟨X, hx⟩ : ∃ X, n * n * n * 6000 / 10000000000 = X := ⟨_, rfl⟩
  have X0 : 0 ≤ X := by omega
  have X1 : X ≤ 1000000000000 := by omega
  rw [hr] at t1 hy
  rw [hx] at hM ⊢
  clear hr hx
  have s4 : IntKind.i64.wrap (r * 4) = r * 4 := by rw [IntKind.wrap_i64]; omega
  have s5 : IntKind.i64.wrap (r * 4 * 1500) = r * 4 * 1500 := by rw [IntKind.wrap_i64]; omega
  have t2 : (r * 4 * 1500).tmod 10000000000 = r * 4 * 1500 % 10000000000 := Int.tmod_eq_emod_of_nonneg (by omega)
  rw [← hy] at t2
  by_cases hy0 : y = 0
  · rw [if_pos hy0]
    subst hy0
    have s6 : IntKind.i64.wrap (-X) = -X := by rw [IntKind.wrap_i64]; omega
    have s7 : IntKind.i64.wrap (la + -X) = la + -X := by rw [IntKind.wrap_i64]; omega
    clear hy
    go_enter Try.func32, Try.ntmps32
    go_wp2_with (first | (go_at_call 33; refine (hT _).mono ?_; rintro e w2 ⟨rfl, rfl⟩) | (go_at_call 52; refine (ms_is hm _).mono ?_; rintro e w2 ⟨rfl, rfl⟩) | (go_at_call 70; refine (abs10_down hd' n0 n1 _).mono ?_; rintro e w2 ⟨rfl, rfl⟩) | (go_at_call 70; refine (abs10_down (x := -n) rfl n0 n1 _).mono ?_; rintro e w2 ⟨rfl, rfl⟩) | (go_at_call 71; refine (hM _).mono ?_; rintro e w2 ⟨rfl, rfl⟩) | (go_at_call 43; refine (max10_any _ _ _).mono ?_; rintro e w2 ⟨rfl, rfl⟩) | (go_at_call 44; refine (min10_any _ _ _).mono ?_; rintro e w2 ⟨rfl, rfl⟩))
    go_ret
    exact ⟨rfl, rfl⟩
  · rw [if_neg hy0]
    have s6 : IntKind.i64.wrap (X + 1) = X + 1 := by rw [IntKind.wrap_i64]; omega
    have s7 : IntKind.i64.wrap (-(X + 1)) = -(X + 1) := by rw [IntKind.wrap_i64]; omega
    have s8 : IntKind.i64.wrap (la + -(X + 1)) = la + -(X + 1) := by rw [IntKind.wrap_i64]; omega
    clear hy
    go_enter Try.func32, Try.ntmps32
    go_wp2_with (first | (go_at_call 33; refine (hT _).mono ?_; rintro e w2 ⟨rfl, rfl⟩) | (go_at_call 52; refine (ms_is hm _).mono ?_; rintro e w2 ⟨rfl, rfl⟩) | (go_at_call 70; refine (abs10_down hd' n0 n1 _).mono ?_; rintro e w2 ⟨rfl, rfl⟩) | (go_at_call 70; refine (abs10_down (x := -n) rfl n0 n1 _).mono ?_; rintro e w2 ⟨rfl, rfl⟩) | (go_at_call 71; refine (hM _).mono ?_; rintro e w2 ⟨rfl, rfl⟩) | (go_at_call 43; refine (max10_any _ _ _).mono ?_; rintro e w2 ⟨rfl, rfl⟩) | (go_at_call 44; refine (min10_any _ _ _).mono ?_; rintro e w2 ⟨rfl, rfl⟩))
    go_ret
    exact ⟨rfl, rfl⟩
theorem specCubicAt_any (la og ms : Int) (w : World) : Calls Try.prog 32 #[.int .i64 la, .int .i64 og, .int .i64 ms] w fun e w' => e = .returned (.int .i64 (cubAtOf la og ms)) ∧ w' = w := by
  by_cases h12 : w10B la = true ∧ w10B og = true
  · have hk : cubTimeOf la og = cubT la og := if_pos h12
    obtain ⟨l0, l1⟩ := win_num h12.1
    obtain ⟨o0, o1⟩ := win_num h12.2
    obtain ⟨k0, k1⟩ := cubT_bd o0 l1
    cases hm : ms10B ms
    · rw [show cubAtOf la og ms = -1 from if_neg (fun h => by rw [hm] at h; cases h.2)]
      exact specCubicAt_no2 la og ms w hk k0 hm
    · rw [show cubAtOf la og ms = cubAt la og ms from if_pos ⟨h12, hm⟩]
      unfold cubAt
      rcases Int.lt_or_le ms (cubT la og) with hd | hd
      · exact specCubicAt_down la og ms w hk k0 k1 hm hd l0 l1
      · exact specCubicAt_up la og ms w hk k0 hm hd l0 l1
  · rw [show cubAtOf la og ms = -1 from if_neg (fun h => h12 h.1)]
    exact specCubicAt_no1 la og ms w (if_neg h12)
end Go.Proofs.Ytmophpbfaonfmae

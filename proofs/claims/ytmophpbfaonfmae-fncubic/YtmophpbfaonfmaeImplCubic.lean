/- What impl's CubicTime and CubicAt answer. -/
import Derived.Test.YtmophpbfaonfmaeImplCurve
namespace Go.Proofs.Ytmophpbfaonfmae
open Go.ChangeShapes Go.WideShapes Go.ChangeAt Go.RowKit Go.Maps
open Go.MuLone
set_option maxRecDepth 100000
set_option linter.unusedVariables false
set_option linter.unusedSimpArgs false

theorem new_c0 (w : World) : ((w.alloc (.map #[] 0)).alloc (.cells #[.int .i32 0, .int .u32 0, .map (some w.heap.size)] 90)).cell? ⟨w.heap.size + 1, 0, none⟩ = some (.int .i32 0) := by go_simp
theorem new_c2 (w : World) : ((w.alloc (.map #[] 0)).alloc (.cells #[.int .i32 0, .int .u32 0, .map (some w.heap.size)] 90)).cell? ⟨w.heap.size + 1, 2, none⟩ = some (.map (some w.heap.size)) := by go_simp
theorem new_f0 (w : World) : ((w.alloc (.map #[] 0)).alloc (.cells #[.int .i32 0, .int .u32 0, .map (some w.heap.size)] 90)).frozen? ⟨w.heap.size + 1, 0, none⟩ = false := by go_simp
theorem new_own (w : World) : ((w.alloc (.map #[] 0)).alloc (.cells #[.int .i32 0, .int .u32 0, .map (some w.heap.size)] 90)).ownsMap Try.prog 2 (plainElem (H := Unit) Try.prog 2) w.heap.size 0 (.map []) := (World.ownsMap_made w _ _ _).alloc _
theorem times_below {w w' : World} (h : OnlyC (w.heap.size + 1) w.heap.size ((w.alloc (.map #[] 0)).alloc (.cells #[.int .i32 0, .int .u32 0, .map (some w.heap.size)] 90)) w') : Below w.heap.size w w' := by
  have h1 : Below w.heap.size w ((w.alloc (.map #[] 0)).alloc (.cells #[.int .i32 0, .int .u32 0, .map (some w.heap.size)] 90)) := by go_grown
  exact h1.trans (h.below (by omega) (by omega) (by simp; omega))
theorem iMs_is {x : Int} {f : Bool} (h : ms10B x = f) (w : World) : Calls Try.prog 46 #[.int .i64 x, .int .i64 0, .int .i64 1000000] w fun e w' => e = .returned (.bool f) ∧ w' = w := by subst h; exact iwithin_any 0 x 1000000 w
theorem ms_num {x : Int} (h : ms10B x = true) : 0 ≤ x ∧ x ≤ 1000000 := by
  unfold ms10B at h
  simp only [Bool.and_eq_true, decide_eq_true_eq] at h
  exact h
set_option maxHeartbeats 2000000 in
theorem implCubicTime_any (la og : Int) (w : World) : Calls Try.prog 31 #[.int .i64 la, .int .i64 og] w fun e w' => e = .returned (.int .i64 (cubTimeOf la og)) ∧ Below w.heap.size w w' := by
  cases h1 : w10B la
  · rw [show cubTimeOf la og = -1 from if_neg (by rw [h1]; simp)]
    go_enter Try.func31, Try.ntmps31
    go_wp2_with (first | (go_at_call 56; refine (iWin_is h1 _).mono ?_; rintro e w2 ⟨rfl, rfl⟩))
    go_ret
    exact ⟨rfl, by go_grown⟩
  cases h2 : w10B og
  · rw [show cubTimeOf la og = -1 from if_neg (by rw [h2]; simp)]
    go_enter Try.func31, Try.ntmps31
    go_wp2_with (first | (go_at_call 56; refine (iWin_is h1 _).mono ?_; rintro e w2 ⟨rfl, rfl⟩) | (go_at_call 56; refine (iWin_is h2 _).mono ?_; rintro e w2 ⟨rfl, rfl⟩))
    go_ret
    exact ⟨rfl, by go_grown⟩
  rw [show cubTimeOf la og = cubT la og from if_pos ⟨h1, h2⟩]
  have hB := back_any (la := la) (og := og) (w.heap.size + 1) w.heap.size ((w.alloc (.map #[] 0)).alloc (.cells #[.int .i32 0, .int .u32 0, .map (some w.heap.size)] 90)) (new_c0 w) (new_c2 w) (new_f0 w) (by omega) (new_own w) (win_num h1) (win_num h2)
  go_enter Try.func31, Try.ntmps31
  go_wp2_with (first | (go_at_call 56; refine (iWin_is h1 _).mono ?_; rintro e w2 ⟨rfl, rfl⟩) | (go_at_call 56; refine (iWin_is h2 _).mono ?_; rintro e w2 ⟨rfl, rfl⟩) | (go_at_call 67; refine (newTimes_any _).mono ?_; rintro e w2 ⟨rfl, rfl⟩) | (go_at_call 69; refine hB.mono ?_; rintro e w2 ⟨rfl, ho2⟩))
  go_ret
  exact ⟨rfl, times_below ho2⟩
set_option maxHeartbeats 2000000 in
theorem implCubicAt_any (la og ms : Int) (w : World) : Calls Try.prog 30 #[.int .i64 la, .int .i64 og, .int .i64 ms] w fun e w' => e = .returned (.int .i64 (cubAtOf la og ms)) ∧ Below w.heap.size w w' := by
  cases h1 : w10B la
  · rw [show cubAtOf la og ms = -1 from if_neg (by rw [h1]; simp)]
    go_enter Try.func30, Try.ntmps30
    go_wp2_with (first | (go_at_call 56; refine (iWin_is h1 _).mono ?_; rintro e w2 ⟨rfl, rfl⟩))
    go_ret
    exact ⟨rfl, by go_grown⟩
  cases h2 : w10B og
  · rw [show cubAtOf la og ms = -1 from if_neg (by rw [h2]; simp)]
    go_enter Try.func30, Try.ntmps30
    go_wp2_with (first | (go_at_call 56; refine (iWin_is h1 _).mono ?_; rintro e w2 ⟨rfl, rfl⟩) | (go_at_call 56; refine (iWin_is h2 _).mono ?_; rintro e w2 ⟨rfl, rfl⟩))
    go_ret
    exact ⟨rfl, by go_grown⟩
  cases h3 : ms10B ms
  · rw [show cubAtOf la og ms = -1 from if_neg (by rw [h3]; simp)]
    go_enter Try.func30, Try.ntmps30
    go_wp2_with (first | (go_at_call 56; refine (iWin_is h1 _).mono ?_; rintro e w2 ⟨rfl, rfl⟩) | (go_at_call 56; refine (iWin_is h2 _).mono ?_; rintro e w2 ⟨rfl, rfl⟩) | (go_at_call 46; refine (iMs_is h3 _).mono ?_; rintro e w2 ⟨rfl, rfl⟩))
    go_ret
    exact ⟨rfl, by go_grown⟩
  rw [show cubAtOf la og ms = cubAt la og ms from if_pos ⟨⟨h1, h2⟩, h3⟩]
  have hB := at_any (la := la) (og := og) (ms := ms) (w.heap.size + 1) w.heap.size ((w.alloc (.map #[] 0)).alloc (.cells #[.int .i32 0, .int .u32 0, .map (some w.heap.size)] 90)) (new_c0 w) (new_c2 w) (new_f0 w) (by omega) (new_own w) (win_num h1) (win_num h2) (ms_num h3)
  go_enter Try.func30, Try.ntmps30
  go_wp2_with (first | (go_at_call 56; refine (iWin_is h1 _).mono ?_; rintro e w2 ⟨rfl, rfl⟩) | (go_at_call 56; refine (iWin_is h2 _).mono ?_; rintro e w2 ⟨rfl, rfl⟩) | (go_at_call 46; refine (iMs_is h3 _).mono ?_; rintro e w2 ⟨rfl, rfl⟩) | (go_at_call 67; refine (newTimes_any _).mono ?_; rintro e w2 ⟨rfl, rfl⟩) | (go_at_call 68; refine hB.mono ?_; rintro e w2 ⟨rfl, ho2⟩))
  go_ret
  exact ⟨rfl, times_below ho2⟩
end Go.Proofs.Ytmophpbfaonfmae

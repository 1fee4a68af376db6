/- What impl's ProbeOk, NewProbe, Gain, Pace and Cap answer. -/
import Derived.Test.YtiibafphgjlffapSpecProbe2
import Derived.Test.YtiibafphgjlffapImplPush
import Derived.Test.YtiibafphgjlffapGrpC
namespace Go.Proofs.Ytiibafphgjlffap
open Go.ChangeShapes Go.WideShapes Go.ChangeAt Go.RowKit
set_option maxRecDepth 100000
set_option linter.unusedVariables false
set_option linter.unusedSimpArgs false

theorem iFil_is {w : World} {a : Option Addr} (cap : Nat) {xs : List (Int × Int)} {f : Bool} (hf : filB xs = f) (h : Smp w.heap.size w a xs) : Calls Try.prog 51 #[.agg #[.slice a xs.length cap], .bool true] w fun e w' => e = .returned (.bool f) ∧ Below w.heap.size w w' := by
  cases f
  · exact (implFilterOk_no cap h (fil_no hf)).mono fun e w' k => k
  · exact (implFilterOk_yes cap h (fil_yes hf)).mono fun e w' k => k
theorem iP_any (lo x hi : Int) (w : World) : Calls Try.prog 39 #[.int .i64 x, .int .i64 lo, .int .i64 hi] w fun e w' => e = .returned (.bool (inP lo x hi)) ∧ w' = w := iwithin_any lo x hi w
theorem iP_is {lo x hi : Int} {f : Bool} (h : inP lo x hi = f) (w : World) : Calls Try.prog 39 #[.int .i64 x, .int .i64 lo, .int .i64 hi] w fun e w' => e = .returned (.bool f) ∧ w' = w := by subst h; exact iP_any lo x hi w
theorem iT_is {x : Int} {f : Bool} (h : timeB x = f) (w : World) : Calls Try.prog 43 #[.int .i64 x] w fun e w' => e = .returned (.bool f) ∧ w' = w := by subst h; exact itime_any x w
theorem pok_order (sa cy sn tp sv mt ta : Int) (xs : List (Int × Int)) : pokB sa cy sn tp sv mt ta xs = (inP 1 sa 4 && inP 0 cy 7 && inP 0 sv 3 && timeB sn && timeB ta && timeB mt && rateB tp && filB xs) := by
  unfold pokB
  ac_rfl
set_option maxHeartbeats 4000000 in
theorem implProbeOk_any {sa cy sn tp sv mt ta : Int} {w : World} {a : Option Addr} (cap : Nat) {xs : List (Int × Int)} (smp : Smp w.heap.size w a xs) : Calls Try.prog 24 #[.agg #[.int .i64 sa, .int .i64 cy, .int .i64 sn, .int .i64 tp, .int .i64 sv, .slice a xs.length cap, .int .i64 mt, .int .i64 ta]] w fun e w' => e = .returned (.bool (pokB sa cy sn tp sv mt ta xs)) ∧ Below w.heap.size w w' := by
  rw [pok_order]
  cases h0 : inP 1 sa 4
  · rw [show (false && inP 0 cy 7 && inP 0 sv 3 && timeB sn && timeB ta && timeB mt && rateB tp && filB xs) = false by simp only [Bool.false_and, Bool.and_false, Bool.true_and, Bool.and_true]]
    go_enter Try.func24, Try.ntmps24
    go_wp2_with (first
      | (go_at_call 39; refine (iP_any _ _ _ _).mono ?_; rintro e w2 ⟨rfl, rfl⟩; first | rw [h0]))
    go_ret
    exact ⟨rfl, by go_grown⟩
  cases h1 : inP 0 cy 7
  · rw [show (true && false && inP 0 sv 3 && timeB sn && timeB ta && timeB mt && rateB tp && filB xs) = false by simp only [Bool.false_and, Bool.and_false, Bool.true_and, Bool.and_true]]
    go_enter Try.func24, Try.ntmps24
    go_wp2_with (first
      | (go_at_call 39; refine (iP_any _ _ _ _).mono ?_; rintro e w2 ⟨rfl, rfl⟩; first | rw [h0] | rw [h1]))
    go_ret
    exact ⟨rfl, by go_grown⟩
  cases h2 : inP 0 sv 3
  · rw [show (true && true && false && timeB sn && timeB ta && timeB mt && rateB tp && filB xs) = false by simp only [Bool.false_and, Bool.and_false, Bool.true_and, Bool.and_true]]
    go_enter Try.func24, Try.ntmps24
    go_wp2_with (first
      | (go_at_call 39; refine (iP_any _ _ _ _).mono ?_; rintro e w2 ⟨rfl, rfl⟩; first | rw [h0] | rw [h1] | rw [h2]))
    go_ret
    exact ⟨rfl, by go_grown⟩
  cases h3 : timeB sn
  · rw [show (true && true && true && false && timeB ta && timeB mt && rateB tp && filB xs) = false by simp only [Bool.false_and, Bool.and_false, Bool.true_and, Bool.and_true]]
    go_enter Try.func24, Try.ntmps24
    go_wp2_with (first
      | (go_at_call 39; refine (iP_any _ _ _ _).mono ?_; rintro e w2 ⟨rfl, rfl⟩; first | rw [h0] | rw [h1] | rw [h2])
      | (go_at_call 43; refine (itime_any _ _).mono ?_; rintro e w2 ⟨rfl, rfl⟩; first | rw [h3]))
    go_ret
    exact ⟨rfl, by go_grown⟩
  cases h4 : timeB ta
  · rw [show (true && true && true && true && false && timeB mt && rateB tp && filB xs) = false by simp only [Bool.false_and, Bool.and_false, Bool.true_and, Bool.and_true]]
    go_enter Try.func24, Try.ntmps24
    go_wp2_with (first
      | (go_at_call 39; refine (iP_any _ _ _ _).mono ?_; rintro e w2 ⟨rfl, rfl⟩; first | rw [h0] | rw [h1] | rw [h2])
      | (go_at_call 43; refine (itime_any _ _).mono ?_; rintro e w2 ⟨rfl, rfl⟩; first | rw [h3] | rw [h4]))
    go_ret
    exact ⟨rfl, by go_grown⟩
  cases h5 : timeB mt
  · rw [show (true && true && true && true && true && false && rateB tp && filB xs) = false by simp only [Bool.false_and, Bool.and_false, Bool.true_and, Bool.and_true]]
    go_enter Try.func24, Try.ntmps24
    go_wp2_with (first
      | (go_at_call 39; refine (iP_any _ _ _ _).mono ?_; rintro e w2 ⟨rfl, rfl⟩; first | rw [h0] | rw [h1] | rw [h2])
      | (go_at_call 43; refine (itime_any _ _).mono ?_; rintro e w2 ⟨rfl, rfl⟩; first | rw [h3] | rw [h4] | rw [h5]))
    go_ret
    exact ⟨rfl, by go_grown⟩
  cases h6 : rateB tp
  · rw [show (true && true && true && true && true && true && false && filB xs) = false by simp only [Bool.false_and, Bool.and_false, Bool.true_and, Bool.and_true]]
    go_enter Try.func24, Try.ntmps24
    go_wp2_with (first
      | (go_at_call 39; refine (iP_any _ _ _ _).mono ?_; rintro e w2 ⟨rfl, rfl⟩; first | rw [h0] | rw [h1] | rw [h2])
      | (go_at_call 43; refine (itime_any _ _).mono ?_; rintro e w2 ⟨rfl, rfl⟩; first | rw [h3] | rw [h4] | rw [h5])
      | (go_at_call 50; refine (irate_any _ _).mono ?_; rintro e w2 ⟨rfl, rfl⟩; first | rw [h6]))
    go_ret
    exact ⟨rfl, by go_grown⟩
  cases h7 : filB xs
  · rw [show (true && true && true && true && true && true && true && false) = false by simp only [Bool.false_and, Bool.and_false, Bool.true_and, Bool.and_true]]
    go_enter Try.func24, Try.ntmps24
    go_wp2_with (first
      | (go_at_call 39; refine (iP_any _ _ _ _).mono ?_; rintro e w2 ⟨rfl, rfl⟩; first | rw [h0] | rw [h1] | rw [h2])
      | (go_at_call 43; refine (itime_any _ _).mono ?_; rintro e w2 ⟨rfl, rfl⟩; first | rw [h3] | rw [h4] | rw [h5])
      | (go_at_call 50; refine (irate_any _ _).mono ?_; rintro e w2 ⟨rfl, rfl⟩; first | rw [h6])
      | (go_at_call 51; refine (iFil_is cap h7 (smp.here (by go_grown))).mono ?_; rintro e w3 ⟨rfl, hb3⟩; have hbw : Below w.heap.size w w3 := below_two (by go_grown) hb3))
    go_ret
    exact ⟨rfl, hbw⟩
  rw [show (true && true && true && true && true && true && true && true) = true from rfl]
  go_enter Try.func24, Try.ntmps24
  go_wp2_with (first
    | (go_at_call 39; refine (iP_any _ _ _ _).mono ?_; rintro e w2 ⟨rfl, rfl⟩; first | rw [h0] | rw [h1] | rw [h2])
    | (go_at_call 43; refine (itime_any _ _).mono ?_; rintro e w2 ⟨rfl, rfl⟩; first | rw [h3] | rw [h4] | rw [h5])
    | (go_at_call 50; refine (irate_any _ _).mono ?_; rintro e w2 ⟨rfl, rfl⟩; first | rw [h6])
    | (go_at_call 51; refine (iFil_is cap h7 (smp.here (by go_grown))).mono ?_; rintro e w3 ⟨rfl, hb3⟩; have hbw : Below w.heap.size w w3 := below_two (by go_grown) hb3))
  go_ret
  exact ⟨rfl, hbw⟩
theorem implProbeOk_is {sa cy sn tp sv mt ta : Int} {w : World} {a : Option Addr} (cap : Nat) {xs : List (Int × Int)} {f : Bool} (hf : pokB sa cy sn tp sv mt ta xs = f) (smp : Smp w.heap.size w a xs) : Calls Try.prog 24 #[.agg #[.int .i64 sa, .int .i64 cy, .int .i64 sn, .int .i64 tp, .int .i64 sv, .slice a xs.length cap, .int .i64 mt, .int .i64 ta]] w fun e w' => e = .returned (.bool f) ∧ Below w.heap.size w w' := by subst hf; exact implProbeOk_any cap smp
theorem gain_is {sa cy sn tp sv mt ta : Int} {xs : List (Int × Int)} (h : pokB sa cy sn tp sv mt ta xs = true) : (0 ≤ sa - 1 ∧ sa - 1 ≤ 3) ∧ (0 ≤ cy ∧ cy ≤ 7) ∧ (if sa - 1 = 0 then 289 else if sa - 1 = 1 then 35 else if sa - 1 = 2 then (if cy = 0 then 125 else if cy = 1 then 75 else 100) else 100) = gainOf sa cy := by
  have hs : (1 ≤ sa ∧ sa ≤ 4) ∧ (0 ≤ cy ∧ cy ≤ 7) := by
    unfold pokB inP at h
    simp only [Bool.and_eq_true, decide_eq_true_eq] at h
    omega
  refine ⟨by omega, hs.2, ?_⟩
  unfold gainOf
  rcases (show sa = 1 ∨ sa = 2 ∨ sa = 3 ∨ sa = 4 by omega) with e | e | e | e <;> subst e <;> rfl
set_option maxHeartbeats 4000000 in
theorem carried_any {sa cy sn tp sv mt ta : Int} {w : World} {a : Option Addr} (cap : Nat) {xs : List (Int × Int)} (smp : Smp w.heap.size w a xs) : Calls Try.prog 103 #[.agg #[.int .i64 sa, .int .i64 cy, .int .i64 sn, .int .i64 tp, .int .i64 sv, .slice a xs.length cap, .int .i64 mt, .int .i64 ta]] w fun e w' => e = .returned (.int .i64 (bytesOf (bestOf xs) mt)) ∧ Below w.heap.size w w' := by
  obtain ⟨be, hbe⟩ : ∃ b, bestOf xs = b := ⟨_, rfl⟩
  rw [hbe]
  have HBE : Hid (bestOf xs = be) := hbe
  have HY := fun w => implBytes_any be mt w
  clear hbe
  go_enter Try.func103, Try.ntmps103
  go_upto_region 1 with (fail)
  obtain ⟨w3, hw3⟩ : ∃ x, x = w.alloc (.cells #[.int .i64 sa, .int .i64 cy, .int .i64 sn, .int .i64 tp, .int .i64 sv, .slice a xs.length cap, .int .i64 mt, .int .i64 ta] 46) := ⟨_, rfl⟩
  rw [← hw3]
  have hbw : Below w.heap.size w w3 := by rw [hw3]; exact new_below _ _
  have zl : w.heap.size + 1 ≤ w3.heap.size := by rw [hw3]; simp
  have s0 : w3.cell? ⟨w.heap.size, 0, none⟩ = some (.int .i64 sa) := by rw [hw3]; go_simp
  have s1 : w3.cell? ⟨w.heap.size, 1, none⟩ = some (.int .i64 cy) := by rw [hw3]; go_simp
  have s2 : w3.cell? ⟨w.heap.size, 2, none⟩ = some (.int .i64 sn) := by rw [hw3]; go_simp
  have s3 : w3.cell? ⟨w.heap.size, 3, none⟩ = some (.int .i64 tp) := by rw [hw3]; go_simp
  have s4 : w3.cell? ⟨w.heap.size, 4, none⟩ = some (.int .i64 sv) := by rw [hw3]; go_simp
  have s5 : w3.cell? ⟨w.heap.size, 5, none⟩ = some (.slice a xs.length cap) := by rw [hw3]; go_simp
  have s6 : w3.cell? ⟨w.heap.size, 6, none⟩ = some (.int .i64 mt) := by rw [hw3]; go_simp
  have s7 : w3.cell? ⟨w.heap.size, 7, none⟩ = some (.int .i64 ta) := by rw [hw3]; go_simp
  clear hw3
  have HS : Hid (∀ w', Below w3.heap.size w3 w' → (fun w' => w'.cell? ⟨w.heap.size, 0, none⟩ = some (.int .i64 sa) ∧ w'.cell? ⟨w.heap.size, 1, none⟩ = some (.int .i64 cy) ∧ w'.cell? ⟨w.heap.size, 2, none⟩ = some (.int .i64 sn) ∧ w'.cell? ⟨w.heap.size, 3, none⟩ = some (.int .i64 tp) ∧ w'.cell? ⟨w.heap.size, 4, none⟩ = some (.int .i64 sv) ∧ w'.cell? ⟨w.heap.size, 5, none⟩ = some (.slice a xs.length cap) ∧ w'.cell? ⟨w.heap.size, 6, none⟩ = some (.int .i64 mt) ∧ w'.cell? ⟨w.heap.size, 7, none⟩ = some (.int .i64 ta)) w') := fun w' h => ⟨(h.cell (by show w.heap.size < _; omega)).trans s0, (h.cell (by show w.heap.size < _; omega)).trans s1, (h.cell (by show w.heap.size < _; omega)).trans s2, (h.cell (by show w.heap.size < _; omega)).trans s3, (h.cell (by show w.heap.size < _; omega)).trans s4, (h.cell (by show w.heap.size < _; omega)).trans s5, (h.cell (by show w.heap.size < _; omega)).trans s6, (h.cell (by show w.heap.size < _; omega)).trans s7⟩
  have hr : Below w3.heap.size w3 w3.drew := (Below.refl _ _).drew
  refine wp_region_held_drew (S := fun w' => w'.cell? ⟨w.heap.size, 0, none⟩ = some (.int .i64 sa) ∧ w'.cell? ⟨w.heap.size, 1, none⟩ = some (.int .i64 cy) ∧ w'.cell? ⟨w.heap.size, 2, none⟩ = some (.int .i64 sn) ∧ w'.cell? ⟨w.heap.size, 3, none⟩ = some (.int .i64 tp) ∧ w'.cell? ⟨w.heap.size, 4, none⟩ = some (.int .i64 sv) ∧ w'.cell? ⟨w.heap.size, 5, none⟩ = some (.slice a xs.length cap) ∧ w'.cell? ⟨w.heap.size, 6, none⟩ = some (.int .i64 mt) ∧ w'.cell? ⟨w.heap.size, 7, none⟩ = some (.int .i64 ta)) (by kernel_rfl) (HS.out _ hr) (fun hS => ?_)
  refine wpAnyH_take (i := 0) (v := ?_) rfl (by kernel_rfl) (by kernel_rfl) (by kernel_rfl) (fun _ _ _ h => h) (Or.inl ⟨by rfl, ?_⟩) (by assumption) ?_
  rotate_left 1
  · (intro w' hSw; (try dsimp only at hSw); go_simp; try with_reducible rfl)
  try simp only [Act.put, List.setIfInBounds_toArray, List.set_cons_zero, List.set_cons_succ, List.getElem_toArray, List.getElem_cons_succ, List.getElem_cons_zero]
  refine wpAnyH_take (i := 1) (v := ?_) rfl (by kernel_rfl) (by kernel_rfl) (by kernel_rfl) (fun _ _ _ h => h) (Or.inl ⟨by rfl, ?_⟩) (by assumption) ?_
  rotate_left 1
  · (intro w' hSw; (try dsimp only at hSw); go_simp; try with_reducible rfl)
  try simp only [Act.put, List.setIfInBounds_toArray, List.set_cons_zero, List.set_cons_succ, List.getElem_toArray, List.getElem_cons_succ, List.getElem_cons_zero]
  refine wpAnyH_take (i := 3) (v := ?_) rfl (by kernel_rfl) (by kernel_rfl) (by kernel_rfl) (fun _ _ _ h => h) (Or.inl ⟨by rfl, ?_⟩) (by assumption) ?_
  rotate_left 1
  · (intro w' hSw; (try dsimp only at hSw); go_simp; try with_reducible rfl)
  try simp only [Act.put, List.setIfInBounds_toArray, List.set_cons_zero, List.set_cons_succ, List.getElem_toArray, List.getElem_cons_succ, List.getElem_cons_zero]
  refine wpAnyH_take (i := 4) (v := ?_) rfl (by kernel_rfl) (by kernel_rfl) (by kernel_rfl) (fun _ _ _ h => h) (Or.inl ⟨by rfl, ?_⟩) (by assumption) ?_
  rotate_left 1
  · (intro w' hSw; (try dsimp only at hSw); go_simp; try with_reducible rfl)
  try simp only [Act.put, List.setIfInBounds_toArray, List.set_cons_zero, List.set_cons_succ, List.getElem_toArray, List.getElem_cons_succ, List.getElem_cons_zero]
  refine wpAnyH_ready (rs := [2]) (by kernel_rfl) (by simp) (AllReadyH.cons rfl (fun K hK => ?_) AllReadyH.nil)
  go_simp
  (refine (implBest_any cap (smp.here (below_two hbw hr)) (Nat.le_refl _)).mono ?_; rintro e x1 ⟨rfl, hbq⟩; rw [HBE.out]; have hr := hr.trans (hbq.mono hr.size); have hSq := HS.out _ hr)
  refine hK.out _ _ (by assumption) (fun _ => ?_)
  try simp only [Act.put, List.setIfInBounds_toArray, List.set_cons_zero, List.set_cons_succ, List.getElem_toArray, List.getElem_cons_succ, List.getElem_cons_zero]
  refine wpAnyH_ready (rs := [5]) (by kernel_rfl) (by simp) (AllReadyH.cons rfl (fun K hK => ?_) AllReadyH.nil)
  go_simp
  (refine (HY _).mono ?_; rintro e x2 ⟨rfl, hbq⟩; have hr := hr.trans (hbq.mono hr.size); have hSq := HS.out _ hr)
  refine hK.out _ _ (by assumption) (fun _ => ?_)
  try simp only [Act.put, List.setIfInBounds_toArray, List.set_cons_zero, List.set_cons_succ, List.getElem_toArray, List.getElem_cons_succ, List.getElem_cons_zero]
  refine wpAnyH_take (i := 6) (v := ?_) rfl (by kernel_rfl) (by kernel_rfl) (by kernel_rfl) (fun _ _ _ h => h) (Or.inl ⟨by rfl, ?_⟩) (by assumption) ?_
  rotate_left 1
  · (intro w' hSw; (try dsimp only at hSw); go_simp; try with_reducible rfl)
  try simp only [Act.put, List.setIfInBounds_toArray, List.set_cons_zero, List.set_cons_succ, List.getElem_toArray, List.getElem_cons_succ, List.getElem_cons_zero]
  refine wpAnyH_done (by kernel_rfl) ?_ _
  go_wp2
  go_ret
  exact ⟨rfl, below_two hbw hr⟩
end Go.Proofs.Ytiibafphgjlffap

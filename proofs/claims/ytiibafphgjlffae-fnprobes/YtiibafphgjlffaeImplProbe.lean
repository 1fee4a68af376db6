/- What impl's ProbeOk, NewProbe, Gain, Pace and Cap answer. -/
import Derived.Test.YtiibafphgjlffaeSpecProbe2
import Derived.Test.YtiibafphgjlffaeImplPush
import Derived.Test.YtiibafphgjlffaeGrpC
namespace Go.Proofs.Ytiibafphgjlffae
open Go.ChangeShapes Go.WideShapes Go.ChangeAt Go.RowKit
set_option maxRecDepth 100000
set_option linter.unusedVariables false
set_option linter.unusedSimpArgs false

theorem iFil_is {w : World} {a : Option Addr} (cap : Nat) {xs : List (Int × Int)} {f : Bool} (hf : filB xs = f) (h : Smp w.heap.size w a xs) : Calls Try.prog 103 #[.agg #[.slice a xs.length cap], .bool true] w fun e w' => e = .returned (.bool f) ∧ Below w.heap.size w w' := by
  cases f
  · exact (implFilterOk_no cap h (fil_no hf)).mono fun e w' k => k
  · exact (implFilterOk_yes cap h (fil_yes hf)).mono fun e w' k => k
theorem iP_any (lo x hi : Int) (w : World) : Calls Try.prog 60 #[.int .i64 x, .int .i64 lo, .int .i64 hi] w fun e w' => e = .returned (.bool (inP lo x hi)) ∧ w' = w := iwithin_any lo x hi w
theorem iP_is {lo x hi : Int} {f : Bool} (h : inP lo x hi = f) (w : World) : Calls Try.prog 60 #[.int .i64 x, .int .i64 lo, .int .i64 hi] w fun e w' => e = .returned (.bool f) ∧ w' = w := by subst h; exact iP_any lo x hi w
theorem iT_is {x : Int} {f : Bool} (h : timeB x = f) (w : World) : Calls Try.prog 59 #[.int .i64 x] w fun e w' => e = .returned (.bool f) ∧ w' = w := by subst h; exact itime_any x w
theorem pok_order (sa cy sn tp sv mt ta : Int) (xs : List (Int × Int)) : pokB sa cy sn tp sv mt ta xs = (inP 1 sa 4 && inP 0 cy 7 && inP 0 sv 3 && timeB sn && timeB ta && timeB mt && rateB tp && filB xs) := by
  unfold pokB
  ac_rfl
set_option maxHeartbeats 4000000 in
theorem implProbeOk_any {sa cy sn tp sv mt ta : Int} {w : World} {a : Option Addr} (cap : Nat) {xs : List (Int × Int)} (smp : Smp w.heap.size w a xs) : Calls Try.prog 52 #[.agg #[.int .i64 sa, .int .i64 cy, .int .i64 sn, .int .i64 tp, .int .i64 sv, .slice a xs.length cap, .int .i64 mt, .int .i64 ta]] w fun e w' => e = .returned (.bool (pokB sa cy sn tp sv mt ta xs)) ∧ Below w.heap.size w w' := by
  rw [pok_order]
  cases h0 : inP 1 sa 4
  · rw [show (false && inP 0 cy 7 && inP 0 sv 3 && timeB sn && timeB ta && timeB mt && rateB tp && filB xs) = false by simp only [Bool.false_and, Bool.and_false, Bool.true_and, Bool.and_true]]
    go_enter Try.func52, Try.ntmps52
    go_wp2_with (first
      | (go_at_call 60; refine (iP_any _ _ _ _).mono ?_; rintro e w2 ⟨rfl, rfl⟩; first | rw [h0]))
    go_ret
    exact ⟨rfl, by go_grown⟩
  cases h1 : inP 0 cy 7
  · rw [show (true && false && inP 0 sv 3 && timeB sn && timeB ta && timeB mt && rateB tp && filB xs) = false by simp only [Bool.false_and, Bool.and_false, Bool.true_and, Bool.and_true]]
    go_enter Try.func52, Try.ntmps52
    go_wp2_with (first
      | (go_at_call 60; refine (iP_any _ _ _ _).mono ?_; rintro e w2 ⟨rfl, rfl⟩; first | rw [h0] | rw [h1]))
    go_ret
    exact ⟨rfl, by go_grown⟩
  cases h2 : inP 0 sv 3
  · rw [show (true && true && false && timeB sn && timeB ta && timeB mt && rateB tp && filB xs) = false by simp only [Bool.false_and, Bool.and_false, Bool.true_and, Bool.and_true]]
    go_enter Try.func52, Try.ntmps52
    go_wp2_with (first
      | (go_at_call 60; refine (iP_any _ _ _ _).mono ?_; rintro e w2 ⟨rfl, rfl⟩; first | rw [h0] | rw [h1] | rw [h2]))
    go_ret
    exact ⟨rfl, by go_grown⟩
  cases h3 : timeB sn
  · rw [show (true && true && true && false && timeB ta && timeB mt && rateB tp && filB xs) = false by simp only [Bool.false_and, Bool.and_false, Bool.true_and, Bool.and_true]]
    go_enter Try.func52, Try.ntmps52
    go_wp2_with (first
      | (go_at_call 60; refine (iP_any _ _ _ _).mono ?_; rintro e w2 ⟨rfl, rfl⟩; first | rw [h0] | rw [h1] | rw [h2])
      | (go_at_call 59; refine (itime_any _ _).mono ?_; rintro e w2 ⟨rfl, rfl⟩; first | rw [h3]))
    go_ret
    exact ⟨rfl, by go_grown⟩
  cases h4 : timeB ta
  · rw [show (true && true && true && true && false && timeB mt && rateB tp && filB xs) = false by simp only [Bool.false_and, Bool.and_false, Bool.true_and, Bool.and_true]]
    go_enter Try.func52, Try.ntmps52
    go_wp2_with (first
      | (go_at_call 60; refine (iP_any _ _ _ _).mono ?_; rintro e w2 ⟨rfl, rfl⟩; first | rw [h0] | rw [h1] | rw [h2])
      | (go_at_call 59; refine (itime_any _ _).mono ?_; rintro e w2 ⟨rfl, rfl⟩; first | rw [h3] | rw [h4]))
    go_ret
    exact ⟨rfl, by go_grown⟩
  cases h5 : timeB mt
  · rw [show (true && true && true && true && true && false && rateB tp && filB xs) = false by simp only [Bool.false_and, Bool.and_false, Bool.true_and, Bool.and_true]]
    go_enter Try.func52, Try.ntmps52
    go_wp2_with (first
      | (go_at_call 60; refine (iP_any _ _ _ _).mono ?_; rintro e w2 ⟨rfl, rfl⟩; first | rw [h0] | rw [h1] | rw [h2])
      | (go_at_call 59; refine (itime_any _ _).mono ?_; rintro e w2 ⟨rfl, rfl⟩; first | rw [h3] | rw [h4] | rw [h5]))
    go_ret
    exact ⟨rfl, by go_grown⟩
  cases h6 : rateB tp
  · rw [show (true && true && true && true && true && true && false && filB xs) = false by simp only [Bool.false_and, Bool.and_false, Bool.true_and, Bool.and_true]]
    go_enter Try.func52, Try.ntmps52
    go_wp2_with (first
      | (go_at_call 60; refine (iP_any _ _ _ _).mono ?_; rintro e w2 ⟨rfl, rfl⟩; first | rw [h0] | rw [h1] | rw [h2])
      | (go_at_call 59; refine (itime_any _ _).mono ?_; rintro e w2 ⟨rfl, rfl⟩; first | rw [h3] | rw [h4] | rw [h5])
      | (go_at_call 102; refine (irate_any _ _).mono ?_; rintro e w2 ⟨rfl, rfl⟩; first | rw [h6]))
    go_ret
    exact ⟨rfl, by go_grown⟩
  cases h7 : filB xs
  · rw [show (true && true && true && true && true && true && true && false) = false by simp only [Bool.false_and, Bool.and_false, Bool.true_and, Bool.and_true]]
    go_enter Try.func52, Try.ntmps52
    go_wp2_with (first
      | (go_at_call 60; refine (iP_any _ _ _ _).mono ?_; rintro e w2 ⟨rfl, rfl⟩; first | rw [h0] | rw [h1] | rw [h2])
      | (go_at_call 59; refine (itime_any _ _).mono ?_; rintro e w2 ⟨rfl, rfl⟩; first | rw [h3] | rw [h4] | rw [h5])
      | (go_at_call 102; refine (irate_any _ _).mono ?_; rintro e w2 ⟨rfl, rfl⟩; first | rw [h6])
      | (go_at_call 103; refine (iFil_is cap h7 (smp.here (by go_grown))).mono ?_; rintro e w3 ⟨rfl, hb3⟩; have hbw : Below w.heap.size w w3 := below_two (by go_grown) hb3))
    go_ret
    exact ⟨rfl, hbw⟩
  rw [show (true && true && true && true && true && true && true && true) = true from rfl]
  go_enter Try.func52, Try.ntmps52
  go_wp2_with (first
    | (go_at_call 60; refine (iP_any _ _ _ _).mono ?_; rintro e w2 ⟨rfl, rfl⟩; first | rw [h0] | rw [h1] | rw [h2])
    | (go_at_call 59; refine (itime_any _ _).mono ?_; rintro e w2 ⟨rfl, rfl⟩; first | rw [h3] | rw [h4] | rw [h5])
    | (go_at_call 102; refine (irate_any _ _).mono ?_; rintro e w2 ⟨rfl, rfl⟩; first | rw [h6])
    | (go_at_call 103; refine (iFil_is cap h7 (smp.here (by go_grown))).mono ?_; rintro e w3 ⟨rfl, hb3⟩; have hbw : Below w.heap.size w w3 := below_two (by go_grown) hb3))
  go_ret
  exact ⟨rfl, hbw⟩
theorem implProbeOk_is {sa cy sn tp sv mt ta : Int} {w : World} {a : Option Addr} (cap : Nat) {xs : List (Int × Int)} {f : Bool} (hf : pokB sa cy sn tp sv mt ta xs = f) (smp : Smp w.heap.size w a xs) : Calls Try.prog 52 #[.agg #[.int .i64 sa, .int .i64 cy, .int .i64 sn, .int .i64 tp, .int .i64 sv, .slice a xs.length cap, .int .i64 mt, .int .i64 ta]] w fun e w' => e = .returned (.bool f) ∧ Below w.heap.size w w' := by subst hf; exact implProbeOk_any cap smp
set_option maxHeartbeats 4000000 in
theorem gainAt3 {i x0 x1 x2 : Int} {b : Nat} {w : World} (h0 : 0 ≤ i) (hi : i ≤ 9) (c0 : w.cell? ⟨b, 0, none⟩ = some (.int .i64 x0)) (c1 : w.cell? ⟨b, 1, none⟩ = some (.int .i64 x1)) (c2 : w.cell? ⟨b, 2, none⟩ = some (.int .i64 x2)) : Calls Try.prog 100 #[.int .i64 i, .slice (some ⟨b, 0, none⟩) 3 3] w fun e w' => e = .returned (.int .i64 (if i = 0 then x0 else if i = 1 then x1 else x2)) ∧ w' = w := by
  by_cases k0 : i = 0
  · subst k0
    simp only [if_true]
    go_enter Try.func100, Try.ntmps100
    go_wp2
    go_ret
    exact ⟨rfl, rfl⟩
  by_cases k1 : i = 1
  · subst k1
    simp only [if_true, if_false, Int.reduceEq]
    go_enter Try.func100, Try.ntmps100
    go_wp2
    go_ret
    exact ⟨rfl, rfl⟩
  simp only [k0, k1, if_false]
  by_cases kn : i = 2
  · subst kn
    go_enter Try.func100, Try.ntmps100
    go_wp2
    go_ret
    exact ⟨rfl, rfl⟩
  have kg : 2 < i := by omega
  go_enter Try.func100, Try.ntmps100
  go_wp2
  go_ret
  exact ⟨rfl, rfl⟩
set_option maxHeartbeats 4000000 in
theorem gainAt4 {i x0 x1 x2 x3 : Int} {b : Nat} {w : World} (h0 : 0 ≤ i) (hi : i ≤ 9) (c0 : w.cell? ⟨b, 0, none⟩ = some (.int .i64 x0)) (c1 : w.cell? ⟨b, 1, none⟩ = some (.int .i64 x1)) (c2 : w.cell? ⟨b, 2, none⟩ = some (.int .i64 x2)) (c3 : w.cell? ⟨b, 3, none⟩ = some (.int .i64 x3)) : Calls Try.prog 100 #[.int .i64 i, .slice (some ⟨b, 0, none⟩) 4 4] w fun e w' => e = .returned (.int .i64 (if i = 0 then x0 else if i = 1 then x1 else if i = 2 then x2 else x3)) ∧ w' = w := by
  by_cases k0 : i = 0
  · subst k0
    simp only [if_true]
    go_enter Try.func100, Try.ntmps100
    go_wp2
    go_ret
    exact ⟨rfl, rfl⟩
  by_cases k1 : i = 1
  · subst k1
    simp only [if_true, if_false, Int.reduceEq]
    go_enter Try.func100, Try.ntmps100
    go_wp2
    go_ret
    exact ⟨rfl, rfl⟩
  by_cases k2 : i = 2
  · subst k2
    simp only [if_true, if_false, Int.reduceEq]
    go_enter Try.func100, Try.ntmps100
    go_wp2
    go_ret
    exact ⟨rfl, rfl⟩
  simp only [k0, k1, k2, if_false]
  by_cases kn : i = 3
  · subst kn
    go_enter Try.func100, Try.ntmps100
    go_wp2
    go_ret
    exact ⟨rfl, rfl⟩
  have kg : 3 < i := by omega
  go_enter Try.func100, Try.ntmps100
  go_wp2
  go_ret
  exact ⟨rfl, rfl⟩
set_option maxHeartbeats 4000000 in
theorem implGain_no {sa cy sn tp sv mt ta : Int} {w : World} {a : Option Addr} (cap : Nat) {xs : List (Int × Int)} (hp : pokB sa cy sn tp sv mt ta xs = false) (smp : Smp w.heap.size w a xs) : Calls Try.prog 49 #[.agg #[.int .i64 sa, .int .i64 cy, .int .i64 sn, .int .i64 tp, .int .i64 sv, .slice a xs.length cap, .int .i64 mt, .int .i64 ta]] w fun e w' => e = .returned (.int .i64 0) ∧ Below w.heap.size w w' := by
  go_enter Try.func49, Try.ntmps49
  go_wp2_with (first
    | (go_at_call 52; refine (implProbeOk_is cap hp (smp.here (by go_grown))).mono ?_; rintro e w3 ⟨rfl, hb3⟩; have hbw : Below w.heap.size w w3 := below_two (by go_grown) hb3; have kc := below_cells4 hb3; have zl := hb3.size; (try simp at zl)))
  go_ret
  exact ⟨rfl, hbw⟩
theorem gain_is {sa cy sn tp sv mt ta : Int} {xs : List (Int × Int)} (h : pokB sa cy sn tp sv mt ta xs = true) : (0 ≤ sa - 1 ∧ sa - 1 ≤ 3) ∧ (0 ≤ cy ∧ cy ≤ 7) ∧ (if sa - 1 = 0 then 289 else if sa - 1 = 1 then 35 else if sa - 1 = 2 then (if cy = 0 then 125 else if cy = 1 then 75 else 100) else 100) = gainOf sa cy := by
  have hs : (1 ≤ sa ∧ sa ≤ 4) ∧ (0 ≤ cy ∧ cy ≤ 7) := by
    unfold pokB inP at h
    simp only [Bool.and_eq_true, decide_eq_true_eq] at h
    omega
  refine ⟨by omega, hs.2, ?_⟩
  unfold gainOf
  rcases (show sa = 1 ∨ sa = 2 ∨ sa = 3 ∨ sa = 4 by omega) with e | e | e | e <;> subst e <;> rfl
set_option maxHeartbeats 4000000 in
theorem implGain_yes {sa cy sn tp sv mt ta : Int} {w : World} {a : Option Addr} (cap : Nat) {xs : List (Int × Int)} (hp : pokB sa cy sn tp sv mt ta xs = true) (smp : Smp w.heap.size w a xs) : Calls Try.prog 49 #[.agg #[.int .i64 sa, .int .i64 cy, .int .i64 sn, .int .i64 tp, .int .i64 sv, .slice a xs.length cap, .int .i64 mt, .int .i64 ta]] w fun e w' => e = .returned (.int .i64 (gainOf sa cy)) ∧ Below w.heap.size w w' := by
  obtain ⟨⟨i0, i1⟩, ⟨y0, y1⟩, hg⟩ := gain_is hp
  rw [← hg]
  obtain ⟨gc, hgc⟩ : ∃ g : Int, (if cy = 0 then 125 else if cy = 1 then 75 else 100) = g := ⟨_, rfl⟩
  obtain ⟨gs, hgs⟩ : ∃ g : Int, (if sa - 1 = 0 then 289 else if sa - 1 = 1 then 35 else if sa - 1 = 2 then gc else 100) = g := ⟨_, rfl⟩
  rw [hgc, hgs]
  have HC : Hid ((if cy = 0 then 125 else if cy = 1 then 75 else (100 : Int)) = gc) := hgc
  have HG : Hid ((if sa - 1 = 0 then 289 else if sa - 1 = 1 then 35 else if sa - 1 = 2 then gc else (100 : Int)) = gs) := hgs
  clear hgc hgs hg
  have r1 : IntKind.i64.wrap (sa - 1) = sa - 1 := by rw [IntKind.wrap_i64]; omega
  go_enter Try.func49, Try.ntmps49
  go_upto_region 3 with (first
    | (go_at_call 52; refine (implProbeOk_is cap hp (smp.here (by go_grown))).mono ?_; rintro e w3 ⟨rfl, hb3⟩; have hbw : Below w.heap.size w w3 := below_two (by go_grown) hb3; have kc := below_cells4 hb3; have zl := hb3.size; (try simp at zl)))
  have s0 : w3.cell? ⟨w.heap.size, 0, none⟩ = some (.int .i64 sa) := (kc _ _ (by simp)).trans (by go_simp)
  have s1 : w3.cell? ⟨w.heap.size, 1, none⟩ = some (.int .i64 cy) := (kc _ _ (by simp)).trans (by go_simp)
  have s2 : w3.cell? ⟨w.heap.size, 2, none⟩ = some (.int .i64 sn) := (kc _ _ (by simp)).trans (by go_simp)
  have s3 : w3.cell? ⟨w.heap.size, 3, none⟩ = some (.int .i64 tp) := (kc _ _ (by simp)).trans (by go_simp)
  have s4 : w3.cell? ⟨w.heap.size, 4, none⟩ = some (.int .i64 sv) := (kc _ _ (by simp)).trans (by go_simp)
  have s5 : w3.cell? ⟨w.heap.size, 5, none⟩ = some (.slice a xs.length cap) := (kc _ _ (by simp)).trans (by go_simp)
  have s6 : w3.cell? ⟨w.heap.size, 6, none⟩ = some (.int .i64 mt) := (kc _ _ (by simp)).trans (by go_simp)
  have s7 : w3.cell? ⟨w.heap.size, 7, none⟩ = some (.int .i64 ta) := (kc _ _ (by simp)).trans (by go_simp)
  have HS : Hid (∀ w', Below w3.heap.size w3 w' → (fun w' => w'.cell? ⟨w.heap.size, 0, none⟩ = some (.int .i64 sa) ∧ w'.cell? ⟨w.heap.size, 1, none⟩ = some (.int .i64 cy) ∧ w'.cell? ⟨w.heap.size, 2, none⟩ = some (.int .i64 sn) ∧ w'.cell? ⟨w.heap.size, 3, none⟩ = some (.int .i64 tp) ∧ w'.cell? ⟨w.heap.size, 4, none⟩ = some (.int .i64 sv) ∧ w'.cell? ⟨w.heap.size, 5, none⟩ = some (.slice a xs.length cap) ∧ w'.cell? ⟨w.heap.size, 6, none⟩ = some (.int .i64 mt) ∧ w'.cell? ⟨w.heap.size, 7, none⟩ = some (.int .i64 ta)) w') := fun w' h => ⟨(h.cell (by show w.heap.size < _; omega)).trans s0, (h.cell (by show w.heap.size < _; omega)).trans s1, (h.cell (by show w.heap.size < _; omega)).trans s2, (h.cell (by show w.heap.size < _; omega)).trans s3, (h.cell (by show w.heap.size < _; omega)).trans s4, (h.cell (by show w.heap.size < _; omega)).trans s5, (h.cell (by show w.heap.size < _; omega)).trans s6, (h.cell (by show w.heap.size < _; omega)).trans s7⟩
  have hr : Below w3.heap.size w3 w3.drew := (Below.refl _ _).drew
  refine region_late (S := fun w' => w'.cell? ⟨w.heap.size, 0, none⟩ = some (.int .i64 sa) ∧ w'.cell? ⟨w.heap.size, 1, none⟩ = some (.int .i64 cy) ∧ w'.cell? ⟨w.heap.size, 2, none⟩ = some (.int .i64 sn) ∧ w'.cell? ⟨w.heap.size, 3, none⟩ = some (.int .i64 tp) ∧ w'.cell? ⟨w.heap.size, 4, none⟩ = some (.int .i64 sv) ∧ w'.cell? ⟨w.heap.size, 5, none⟩ = some (.slice a xs.length cap) ∧ w'.cell? ⟨w.heap.size, 6, none⟩ = some (.int .i64 mt) ∧ w'.cell? ⟨w.heap.size, 7, none⟩ = some (.int .i64 ta)) 9 (by kernel_rfl) (HS.out _ hr) (fun hS => ?_)
  refine late_take (i := 0) (v := ?_) rfl (by kernel_rfl) (by kernel_rfl) (by kernel_rfl) (by kernel_rfl) (fun _ _ _ h => h) (Or.inl ⟨by rfl, ?_⟩) (by assumption) ?_
  rotate_left 1
  · (intro w' hSw; (try dsimp only at hSw); go_simp; try with_reducible rfl)
  try simp only [Act.put, List.setIfInBounds_toArray, List.set_cons_zero, List.set_cons_succ, List.getElem_toArray, List.getElem_cons_succ, List.getElem_cons_zero]
  refine late_take (i := 1) (v := ?_) rfl (by kernel_rfl) (by kernel_rfl) (by kernel_rfl) (by kernel_rfl) (fun _ _ _ h => h) (Or.inl ⟨by rfl, ?_⟩) (by assumption) ?_
  rotate_left 1
  · (intro w' hSw; (try dsimp only at hSw); go_simp; try with_reducible rfl)
  try simp only [Act.put, List.setIfInBounds_toArray, List.set_cons_zero, List.set_cons_succ, List.getElem_toArray, List.getElem_cons_succ, List.getElem_cons_zero]
  refine late_take (i := 2) (v := ?_) rfl (by kernel_rfl) (by kernel_rfl) (by kernel_rfl) (by kernel_rfl) (fun _ _ _ h => h) (Or.inl ⟨by rfl, ?_⟩) (by assumption) ?_
  rotate_left 1
  · (intro w' hSw; (try dsimp only at hSw); go_simp; try with_reducible rfl)
  try simp only [Act.put, List.setIfInBounds_toArray, List.set_cons_zero, List.set_cons_succ, List.getElem_toArray, List.getElem_cons_succ, List.getElem_cons_zero]
  refine late_take (i := 3) (v := ?_) rfl (by kernel_rfl) (by kernel_rfl) (by kernel_rfl) (by kernel_rfl) (fun _ _ _ h => h) (Or.inl ⟨by rfl, ?_⟩) (by assumption) ?_
  rotate_left 1
  · (intro w' hSw; (try dsimp only at hSw); go_simp; try with_reducible rfl)
  try simp only [Act.put, List.setIfInBounds_toArray, List.set_cons_zero, List.set_cons_succ, List.getElem_toArray, List.getElem_cons_succ, List.getElem_cons_zero]
  refine late_take (i := 4) (v := ?_) rfl (by kernel_rfl) (by kernel_rfl) (by kernel_rfl) (by kernel_rfl) (fun _ _ _ h => h) (Or.inl ⟨by rfl, ?_⟩) (by assumption) ?_
  rotate_left 1
  · (intro w' hSw; (try dsimp only at hSw); go_simp; try with_reducible rfl)
  try simp only [Act.put, List.setIfInBounds_toArray, List.set_cons_zero, List.set_cons_succ, List.getElem_toArray, List.getElem_cons_succ, List.getElem_cons_zero]
  refine late_one (i := 5) (by kernel_rfl) rfl (fun K hK => ?_)
  go_simp
  refine hK.out _ _ (HS.out _ (by go_grown)) (fun hS => ?_)
  try simp only [Act.put, List.setIfInBounds_toArray, List.set_cons_zero, List.set_cons_succ, List.getElem_toArray, List.getElem_cons_succ, List.getElem_cons_zero]
  refine late_one (i := 6) (by kernel_rfl) rfl (fun K hK => ?_)
  go_simp
  (refine (gainAt3 (x0 := 125) (x1 := 75) (x2 := 100) y0 (by omega) (by go_simp) (by go_simp) (by go_simp)).mono ?_; rintro e x1 ⟨rfl, rfl⟩; rw [HC.out])
  refine hK.out _ _ (by assumption) (fun _ => ?_)
  try simp only [Act.put, List.setIfInBounds_toArray, List.set_cons_zero, List.set_cons_succ, List.getElem_toArray, List.getElem_cons_succ, List.getElem_cons_zero]
  refine late_one (i := 7) (by kernel_rfl) rfl (fun K hK => ?_)
  go_simp
  refine hK.out _ _ (HS.out _ (by go_grown)) (fun hS => ?_)
  try simp only [Act.put, List.setIfInBounds_toArray, List.set_cons_zero, List.set_cons_succ, List.getElem_toArray, List.getElem_cons_succ, List.getElem_cons_zero]
  refine late_one (i := 8) (by kernel_rfl) rfl (fun K hK => ?_)
  go_simp
  (refine (gainAt4 (x0 := 289) (x1 := 35) (x2 := gc) (x3 := 100) i0 (by omega) (by go_simp) (by go_simp) (by go_simp) (by go_simp)).mono ?_; rintro e x2 ⟨rfl, rfl⟩; rw [HG.out])
  refine hK.out _ _ (by assumption) (fun _ => ?_)
  try simp only [Act.put, List.setIfInBounds_toArray, List.set_cons_zero, List.set_cons_succ, List.getElem_toArray, List.getElem_cons_succ, List.getElem_cons_zero]
  refine late_last (by kernel_rfl) rfl (by kernel_rfl) (fun K hK => ?_)
  go_simp
  refine hK.out _ _ ?_
  try simp only [Act.put, List.setIfInBounds_toArray, List.set_cons_zero, List.set_cons_succ, List.getElem_toArray, List.getElem_cons_succ, List.getElem_cons_zero]
  go_wp2
  go_ret
  exact ⟨rfl, below_two hbw (by go_grown)⟩
set_option maxHeartbeats 4000000 in
theorem implPace_no {sa cy sn tp sv mt ta : Int} {w : World} {a : Option Addr} (cap : Nat) {xs : List (Int × Int)} (hp : pokB sa cy sn tp sv mt ta xs = false) (smp : Smp w.heap.size w a xs) : Calls Try.prog 45 #[.agg #[.int .i64 sa, .int .i64 cy, .int .i64 sn, .int .i64 tp, .int .i64 sv, .slice a xs.length cap, .int .i64 mt, .int .i64 ta]] w fun e w' => e = .returned (.int .i64 0) ∧ Below w.heap.size w w' := by
  go_enter Try.func45, Try.ntmps45
  go_wp2_with (first
    | (go_at_call 52; refine (implProbeOk_is cap hp (smp.here (by go_grown))).mono ?_; rintro e w3 ⟨rfl, hb3⟩; have hbw : Below w.heap.size w w3 := below_two (by go_grown) hb3; have kc := below_cells4 hb3; have zl := hb3.size; (try simp at zl)))
  go_ret
  exact ⟨rfl, hbw⟩
set_option maxHeartbeats 4000000 in
theorem implPace_yes {sa cy sn tp sv mt ta : Int} {w : World} {a : Option Addr} (cap : Nat) {xs : List (Int × Int)} (hp : pokB sa cy sn tp sv mt ta xs = true) (smp : Smp w.heap.size w a xs) : Calls Try.prog 45 #[.agg #[.int .i64 sa, .int .i64 cy, .int .i64 sn, .int .i64 tp, .int .i64 sv, .slice a xs.length cap, .int .i64 mt, .int .i64 ta]] w fun e w' => e = .returned (.int .i64 (min 1000000000000 (bestOf xs * gainOf sa cy / 100))) ∧ Below w.heap.size w w' := by
  have HP : Hid (pokB sa cy sn tp sv mt ta xs = true) := hp
  obtain ⟨hf, hm⟩ := pok_fil hp
  have b0 := best_num hf
  obtain ⟨be, hbe⟩ : ∃ b, bestOf xs = b := ⟨_, rfl⟩
  rw [hbe] at b0 ⊢
  have HBE : Hid (bestOf xs = be) := hbe
  have g0 := gain_num sa cy
  obtain ⟨gn, hgn⟩ : ∃ g, gainOf sa cy = g := ⟨_, rfl⟩
  rw [hgn] at g0 ⊢
  have HG : Hid (gainOf sa cy = gn) := hgn
  have p0 : 0 ≤ be * gn := Int.mul_nonneg b0.1 (by omega)
  have p1 : be * gn ≤ 1000000000000 * 289 := Int.mul_le_mul b0.2 g0.2 (by omega) (by omega)
  have r1 : IntKind.i64.wrap (be * gn) = be * gn := by rw [IntKind.wrap_i64]; omega
  have ed := tdiv10 (x := be * gn) p0 100
  have r2 : IntKind.i64.wrap (be * gn / 100) = be * gn / 100 := by rw [IntKind.wrap_i64]; omega
  obtain ⟨pm, hpm⟩ : ∃ m : Int, min 1000000000000 (be * gn / 100) = m := ⟨_, rfl⟩
  have em : (if 1000000000000 < be * gn / 100 then (1000000000000 : Int) else be * gn / 100) = pm := by rw [← hpm]; split <;> omega
  rw [hpm]
  clear hbe hgn hf hm hpm
  go_enter Try.func45, Try.ntmps45
  go_upto_region 3 with (first
    | (go_at_call 52; refine (implProbeOk_is cap hp (smp.here (by go_grown))).mono ?_; rintro e w3 ⟨rfl, hb3⟩; have hbw : Below w.heap.size w w3 := below_two (by go_grown) hb3; have kc := below_cells4 hb3; have zl := hb3.size; (try simp at zl)))
  have s0 : w3.cell? ⟨w.heap.size, 0, none⟩ = some (.int .i64 sa) := (kc _ _ (by simp)).trans (by go_simp)
  have s1 : w3.cell? ⟨w.heap.size, 1, none⟩ = some (.int .i64 cy) := (kc _ _ (by simp)).trans (by go_simp)
  have s2 : w3.cell? ⟨w.heap.size, 2, none⟩ = some (.int .i64 sn) := (kc _ _ (by simp)).trans (by go_simp)
  have s3 : w3.cell? ⟨w.heap.size, 3, none⟩ = some (.int .i64 tp) := (kc _ _ (by simp)).trans (by go_simp)
  have s4 : w3.cell? ⟨w.heap.size, 4, none⟩ = some (.int .i64 sv) := (kc _ _ (by simp)).trans (by go_simp)
  have s5 : w3.cell? ⟨w.heap.size, 5, none⟩ = some (.slice a xs.length cap) := (kc _ _ (by simp)).trans (by go_simp)
  have s6 : w3.cell? ⟨w.heap.size, 6, none⟩ = some (.int .i64 mt) := (kc _ _ (by simp)).trans (by go_simp)
  have s7 : w3.cell? ⟨w.heap.size, 7, none⟩ = some (.int .i64 ta) := (kc _ _ (by simp)).trans (by go_simp)
  have HS : Hid (∀ w', Below w3.heap.size w3 w' → (fun w' => w'.cell? ⟨w.heap.size, 0, none⟩ = some (.int .i64 sa) ∧ w'.cell? ⟨w.heap.size, 1, none⟩ = some (.int .i64 cy) ∧ w'.cell? ⟨w.heap.size, 2, none⟩ = some (.int .i64 sn) ∧ w'.cell? ⟨w.heap.size, 3, none⟩ = some (.int .i64 tp) ∧ w'.cell? ⟨w.heap.size, 4, none⟩ = some (.int .i64 sv) ∧ w'.cell? ⟨w.heap.size, 5, none⟩ = some (.slice a xs.length cap) ∧ w'.cell? ⟨w.heap.size, 6, none⟩ = some (.int .i64 mt) ∧ w'.cell? ⟨w.heap.size, 7, none⟩ = some (.int .i64 ta)) w') := fun w' h => ⟨(h.cell (by show w.heap.size < _; omega)).trans s0, (h.cell (by show w.heap.size < _; omega)).trans s1, (h.cell (by show w.heap.size < _; omega)).trans s2, (h.cell (by show w.heap.size < _; omega)).trans s3, (h.cell (by show w.heap.size < _; omega)).trans s4, (h.cell (by show w.heap.size < _; omega)).trans s5, (h.cell (by show w.heap.size < _; omega)).trans s6, (h.cell (by show w.heap.size < _; omega)).trans s7⟩
  have hr : Below w3.heap.size w3 w3.drew := (Below.refl _ _).drew
  refine wp_region_held_drew (S := fun w' => w'.cell? ⟨w.heap.size, 0, none⟩ = some (.int .i64 sa) ∧ w'.cell? ⟨w.heap.size, 1, none⟩ = some (.int .i64 cy) ∧ w'.cell? ⟨w.heap.size, 2, none⟩ = some (.int .i64 sn) ∧ w'.cell? ⟨w.heap.size, 3, none⟩ = some (.int .i64 tp) ∧ w'.cell? ⟨w.heap.size, 4, none⟩ = some (.int .i64 sv) ∧ w'.cell? ⟨w.heap.size, 5, none⟩ = some (.slice a xs.length cap) ∧ w'.cell? ⟨w.heap.size, 6, none⟩ = some (.int .i64 mt) ∧ w'.cell? ⟨w.heap.size, 7, none⟩ = some (.int .i64 ta)) (by kernel_rfl) (HS.out _ hr) (fun hS => ?_)
  refine wpAnyH_take (i := 0) (v := ?_) rfl (by kernel_rfl) (by kernel_rfl) (by kernel_rfl) (fun _ _ _ h => h) (Or.inl ⟨by rfl, ?_⟩) (by assumption) ?_
  rotate_left 1
  · (intro w' hSw; (try dsimp only at hSw); go_simp; try with_reducible rfl)
  try simp only [Act.put, List.setIfInBounds_toArray, List.set_cons_zero, List.set_cons_succ, List.getElem_toArray, List.getElem_cons_succ, List.getElem_cons_zero]
  refine wpAnyH_take (i := 1) (v := ?_) rfl (by kernel_rfl) (by kernel_rfl) (by kernel_rfl) (fun _ _ _ h => h) (Or.inl ⟨by rfl, ?_⟩) (by assumption) ?_
  rotate_left 1
  · (intro w' hSw; (try dsimp only at hSw); go_simp; try with_reducible rfl)
  try simp only [Act.put, List.setIfInBounds_toArray, List.set_cons_zero, List.set_cons_succ, List.getElem_toArray, List.getElem_cons_succ, List.getElem_cons_zero]
  refine wpAnyH_take (i := 3) (v := ?_) rfl (by kernel_rfl) (by kernel_rfl) (by kernel_rfl) (fun _ _ _ h => h) (Or.inl ⟨by rfl, ?_⟩) (by assumption) ?_
  rotate_left 1
  · (intro w' hSw; (try dsimp only at hSw); go_simp; try with_reducible rfl)
  try simp only [Act.put, List.setIfInBounds_toArray, List.set_cons_zero, List.set_cons_succ, List.getElem_toArray, List.getElem_cons_succ, List.getElem_cons_zero]
  refine wpAnyH_ready (rs := [2]) (by kernel_rfl) (by simp) (AllReadyH.cons rfl (fun K hK => ?_) AllReadyH.nil)
  go_simp
  (refine (implBest_any cap (smp.here (below_two hbw hr)) (Nat.le_refl _)).mono ?_; rintro e x1 ⟨rfl, hbq⟩; rw [HBE.out]; have hr := hr.trans (hbq.mono hr.size); have hSq := HS.out _ hr)
  refine hK.out _ _ (by assumption) (fun _ => ?_)
  try simp only [Act.put, List.setIfInBounds_toArray, List.set_cons_zero, List.set_cons_succ, List.getElem_toArray, List.getElem_cons_succ, List.getElem_cons_zero]
  refine wpAnyH_ready (rs := [4]) (by kernel_rfl) (by simp) (AllReadyH.cons rfl (fun K hK => ?_) AllReadyH.nil)
  go_simp
  (refine (implGain_yes cap HP.out (smp.here (below_two hbw hr))).mono ?_; rintro e x2 ⟨rfl, hbq⟩; rw [HG.out]; have hr := hr.trans (hbq.mono hr.size); have hSq := HS.out _ hr)
  refine hK.out _ _ (by assumption) (fun _ => ?_)
  try simp only [Act.put, List.setIfInBounds_toArray, List.set_cons_zero, List.set_cons_succ, List.getElem_toArray, List.getElem_cons_succ, List.getElem_cons_zero]
  refine wpAnyH_take (i := 5) (v := ?_) rfl (by kernel_rfl) (by kernel_rfl) (by kernel_rfl) (fun _ _ _ h => h) (Or.inl ⟨by rfl, ?_⟩) (by assumption) ?_
  rotate_left 1
  · (intro w' hSw; (try dsimp only at hSw); go_simp; try with_reducible rfl)
  try simp only [Act.put, List.setIfInBounds_toArray, List.set_cons_zero, List.set_cons_succ, List.getElem_toArray, List.getElem_cons_succ, List.getElem_cons_zero]
  refine wpAnyH_take (i := 6) (v := ?_) rfl (by kernel_rfl) (by kernel_rfl) (by kernel_rfl) (fun _ _ _ h => h) (Or.inl ⟨by rfl, ?_⟩) (by assumption) ?_
  rotate_left 1
  · (intro w' hSw; (try dsimp only at hSw); go_simp; try with_reducible rfl)
  try simp only [Act.put, List.setIfInBounds_toArray, List.set_cons_zero, List.set_cons_succ, List.getElem_toArray, List.getElem_cons_succ, List.getElem_cons_zero]
  refine wpAnyH_take (i := 7) (v := ?_) rfl (by kernel_rfl) (by kernel_rfl) (by kernel_rfl) (fun _ _ _ h => h) (Or.inl ⟨by rfl, ?_⟩) (by assumption) ?_
  rotate_left 1
  · (intro w' hSw; (try dsimp only at hSw); go_simp; try with_reducible rfl)
  try simp only [Act.put, List.setIfInBounds_toArray, List.set_cons_zero, List.set_cons_succ, List.getElem_toArray, List.getElem_cons_succ, List.getElem_cons_zero]
  refine wpAnyH_take (i := 8) (v := ?_) rfl (by kernel_rfl) (by kernel_rfl) (by kernel_rfl) (fun _ _ _ h => h) (Or.inl ⟨by rfl, ?_⟩) (by assumption) ?_
  rotate_left 1
  · (intro w' hSw; (try dsimp only at hSw); go_simp; try with_reducible rfl)
  try simp only [Act.put, List.setIfInBounds_toArray, List.set_cons_zero, List.set_cons_succ, List.getElem_toArray, List.getElem_cons_succ, List.getElem_cons_zero]
  refine wpAnyH_done (by kernel_rfl) ?_ _
  go_wp2
  go_ret
  exact ⟨rfl, below_two hbw hr⟩
set_option maxHeartbeats 4000000 in
theorem carried_any {sa cy sn tp sv mt ta : Int} {w : World} {a : Option Addr} (cap : Nat) {xs : List (Int × Int)} (smp : Smp w.heap.size w a xs) : Calls Try.prog 99 #[.agg #[.int .i64 sa, .int .i64 cy, .int .i64 sn, .int .i64 tp, .int .i64 sv, .slice a xs.length cap, .int .i64 mt, .int .i64 ta]] w fun e w' => e = .returned (.int .i64 (bytesOf (bestOf xs) mt)) ∧ Below w.heap.size w w' := by
  obtain ⟨be, hbe⟩ : ∃ b, bestOf xs = b := ⟨_, rfl⟩
  rw [hbe]
  have HBE : Hid (bestOf xs = be) := hbe
  have HY := fun w => implBytes_any be mt w
  clear hbe
  go_enter Try.func99, Try.ntmps99
  go_upto_region 1 with (fail)
  obtain ⟨w3, hw3⟩ : ∃ x, x = w.alloc (.cells #[.int .i64 sa, .int .i64 cy, .int .i64 sn, .int .i64 tp, .int .i64 sv, .slice a xs.length cap, .int .i64 mt, .int .i64 ta] 53) := ⟨_, rfl⟩
  rw [← hw3]
  have hbw : Below w.heap.size w w3 := by rw [hw3]; exact new_below _ _
  have zl : w.heap.size + 1 ≤ w3.heap.size := by rw [hw3]; simp
  have s0 : w3.cell? ⟨w.heap.size, 0, none⟩ = some (.int .i64 sa) := by rw [hw3]; go_simp
  have s1 : w3.cell? ⟨w.heap.size, 1, none⟩ = some (.int .i64 cy) := by rw [hw3]; go_simp
  have s2 : w3.cell? ⟨w.heap.size, 2, none⟩ = some (.int .i64 sn) := by rw [hw3]; go_simp
  have s3 : w3.cell? ⟨w.heap.size, 3, none⟩ = some (.int .i64 tp) := by rw [hw3]; go_simp
  have s4 : w3.cell? ⟨w.heap.size, 4, none⟩ = some (.int .i64 sv) := by rw [hw3]; go_simp
  have s5 : w3.cell? ⟨w.heap.size, 5, none⟩ = some (.slice a xs.length cap) := by rw [hw3]; go_simp
  have s6 : w3.cell? ⟨w.heap.size, 6, none⟩ = some (.int .i64 mt) := by rw [hw3]; go_simp
  have s7 : w3.cell? ⟨w.heap.size, 7, none⟩ = some (.int .i64 ta) := by rw [hw3]; go_simp
  clear hw3
  have HS : Hid (∀ w', Below w3.heap.size w3 w' → (fun w' => w'.cell? ⟨w.heap.size, 0, none⟩ = some (.int .i64 sa) ∧ w'.cell? ⟨w.heap.size, 1, none⟩ = some (.int .i64 cy) ∧ w'.cell? ⟨w.heap.size, 2, none⟩ = some (.int .i64 sn) ∧ w'.cell? ⟨w.heap.size, 3, none⟩ = some (.int .i64 tp) ∧ w'.cell? ⟨w.heap.size, 4, none⟩ = some (.int .i64 sv) ∧ w'.cell? ⟨w.heap.size, 5, none⟩ = some (.slice a xs.length cap) ∧ w'.cell? ⟨w.heap.size, 6, none⟩ = some (.int .i64 mt) ∧ w'.cell? ⟨w.heap.size, 7, none⟩ = some (.int .i64 ta)) w') := fun w' h => ⟨(h.cell (by show w.heap.size < _; omega)).trans s0, (h.cell (by show w.heap.size < _; omega)).trans s1, (h.cell (by show w.heap.size < _; omega)).trans s2, (h.cell (by show w.heap.size < _; omega)).trans s3, (h.cell (by show w.heap.size < _; omega)).trans s4, (h.cell (by show w.heap.size < _; omega)).trans s5, (h.cell (by show w.heap.size < _; omega)).trans s6, (h.cell (by show w.heap.size < _; omega)).trans s7⟩
  have hr : Below w3.heap.size w3 w3.drew := (Below.refl _ _).drew
  refine wp_region_held_drew (S := fun w' => w'.cell? ⟨w.heap.size, 0, none⟩ = some (.int .i64 sa) ∧ w'.cell? ⟨w.heap.size, 1, none⟩ = some (.int .i64 cy) ∧ w'.cell? ⟨w.heap.size, 2, none⟩ = some (.int .i64 sn) ∧ w'.cell? ⟨w.heap.size, 3, none⟩ = some (.int .i64 tp) ∧ w'.cell? ⟨w.heap.size, 4, none⟩ = some (.int .i64 sv) ∧ w'.cell? ⟨w.heap.size, 5, none⟩ = some (.slice a xs.length cap) ∧ w'.cell? ⟨w.heap.size, 6, none⟩ = some (.int .i64 mt) ∧ w'.cell? ⟨w.heap.size, 7, none⟩ = some (.int .i64 ta)) (by kernel_rfl) (HS.out _ hr) (fun hS => ?_)
  refine wpAnyH_take (i := 0) (v := ?_) rfl (by kernel_rfl) (by kernel_rfl) (by kernel_rfl) (fun _ _ _ h => h) (Or.inl ⟨by rfl, ?_⟩) (by assumption) ?_
  rotate_left 1
  · (intro w' hSw; (try dsimp only at hSw); go_simp; try with_reducible rfl)
  try simp only [Act.put, List.setIfInBounds_toArray, List.set_cons_zero, List.set_cons_succ, List.getElem_toArray, List.getElem_cons_succ, List.getElem_cons_zero]
  refine wpAnyH_take (i := 1) (v := ?_) rfl (by kernel_rfl) (by kernel_rfl) (by kernel_rfl) (fun _ _ _ h => h) (Or.inl ⟨by rfl, ?_⟩) (by assumption) ?_
  rotate_left 1
  · (intro w' hSw; (try dsimp only at hSw); go_simp; try with_reducible rfl)
  try simp only [Act.put, List.setIfInBounds_toArray, List.set_cons_zero, List.set_cons_succ, List.getElem_toArray, List.getElem_cons_succ, List.getElem_cons_zero]
  refine wpAnyH_take (i := 3) (v := ?_) rfl (by kernel_rfl) (by kernel_rfl) (by kernel_rfl) (fun _ _ _ h => h) (Or.inl ⟨by rfl, ?_⟩) (by assumption) ?_
  rotate_left 1
  · (intro w' hSw; (try dsimp only at hSw); go_simp; try with_reducible rfl)
  try simp only [Act.put, List.setIfInBounds_toArray, List.set_cons_zero, List.set_cons_succ, List.getElem_toArray, List.getElem_cons_succ, List.getElem_cons_zero]
  refine wpAnyH_take (i := 4) (v := ?_) rfl (by kernel_rfl) (by kernel_rfl) (by kernel_rfl) (fun _ _ _ h => h) (Or.inl ⟨by rfl, ?_⟩) (by assumption) ?_
  rotate_left 1
  · (intro w' hSw; (try dsimp only at hSw); go_simp; try with_reducible rfl)
  try simp only [Act.put, List.setIfInBounds_toArray, List.set_cons_zero, List.set_cons_succ, List.getElem_toArray, List.getElem_cons_succ, List.getElem_cons_zero]
  refine wpAnyH_ready (rs := [2]) (by kernel_rfl) (by simp) (AllReadyH.cons rfl (fun K hK => ?_) AllReadyH.nil)
  go_simp
  (refine (implBest_any cap (smp.here (below_two hbw hr)) (Nat.le_refl _)).mono ?_; rintro e x1 ⟨rfl, hbq⟩; rw [HBE.out]; have hr := hr.trans (hbq.mono hr.size); have hSq := HS.out _ hr)
  refine hK.out _ _ (by assumption) (fun _ => ?_)
  try simp only [Act.put, List.setIfInBounds_toArray, List.set_cons_zero, List.set_cons_succ, List.getElem_toArray, List.getElem_cons_succ, List.getElem_cons_zero]
  refine wpAnyH_ready (rs := [5]) (by kernel_rfl) (by simp) (AllReadyH.cons rfl (fun K hK => ?_) AllReadyH.nil)
  go_simp
  (refine (HY _).mono ?_; rintro e x2 ⟨rfl, hbq⟩; have hr := hr.trans (hbq.mono hr.size); have hSq := HS.out _ hr)
  refine hK.out _ _ (by assumption) (fun _ => ?_)
  try simp only [Act.put, List.setIfInBounds_toArray, List.set_cons_zero, List.set_cons_succ, List.getElem_toArray, List.getElem_cons_succ, List.getElem_cons_zero]
  refine wpAnyH_take (i := 6) (v := ?_) rfl (by kernel_rfl) (by kernel_rfl) (by kernel_rfl) (fun _ _ _ h => h) (Or.inl ⟨by rfl, ?_⟩) (by assumption) ?_
  rotate_left 1
  · (intro w' hSw; (try dsimp only at hSw); go_simp; try with_reducible rfl)
  try simp only [Act.put, List.setIfInBounds_toArray, List.set_cons_zero, List.set_cons_succ, List.getElem_toArray, List.getElem_cons_succ, List.getElem_cons_zero]
  refine wpAnyH_done (by kernel_rfl) ?_ _
  go_wp2
  go_ret
  exact ⟨rfl, below_two hbw hr⟩
set_option maxHeartbeats 4000000 in
theorem implCap_no {sa cy sn tp sv mt ta : Int} {w : World} {a : Option Addr} (cap : Nat) {xs : List (Int × Int)} (hp : pokB sa cy sn tp sv mt ta xs = false) (smp : Smp w.heap.size w a xs) : Calls Try.prog 47 #[.agg #[.int .i64 sa, .int .i64 cy, .int .i64 sn, .int .i64 tp, .int .i64 sv, .slice a xs.length cap, .int .i64 mt, .int .i64 ta]] w fun e w' => e = .returned (.int .i64 0) ∧ Below w.heap.size w w' := by
  go_enter Try.func47, Try.ntmps47
  go_wp2_with (first
    | (go_at_call 52; refine (implProbeOk_is cap hp (smp.here (by go_grown))).mono ?_; rintro e w3 ⟨rfl, hb3⟩; have hbw : Below w.heap.size w w3 := below_two (by go_grown) hb3; have kc := below_cells4 hb3; have zl := hb3.size; (try simp at zl)))
  go_ret
  exact ⟨rfl, hbw⟩
set_option maxHeartbeats 4000000 in
theorem implCap_trip {cy sn tp sv mt ta : Int} {w : World} {a : Option Addr} (cap : Nat) {xs : List (Int × Int)} (hp : pokB 4 cy sn tp sv mt ta xs = true) (smp : Smp w.heap.size w a xs) : Calls Try.prog 47 #[.agg #[.int .i64 4, .int .i64 cy, .int .i64 sn, .int .i64 tp, .int .i64 sv, .slice a xs.length cap, .int .i64 mt, .int .i64 ta]] w fun e w' => e = .returned (.int .i64 6000) ∧ Below w.heap.size w w' := by
  go_enter Try.func47, Try.ntmps47
  go_wp2_with (first
    | (go_at_call 52; refine (implProbeOk_is cap hp (smp.here (by go_grown))).mono ?_; rintro e w3 ⟨rfl, hb3⟩; have hbw : Below w.heap.size w w3 := below_two (by go_grown) hb3; have kc := below_cells4 hb3; have zl := hb3.size; (try simp at zl)))
  go_ret
  exact ⟨rfl, hbw⟩
set_option maxHeartbeats 4000000 in
theorem implCap_yes {sa cy sn tp sv mt ta : Int} {w : World} {a : Option Addr} (cap : Nat) {xs : List (Int × Int)} (hp : pokB sa cy sn tp sv mt ta xs = true) (h4 : ¬ sa = 4) (smp : Smp w.heap.size w a xs) : Calls Try.prog 47 #[.agg #[.int .i64 sa, .int .i64 cy, .int .i64 sn, .int .i64 tp, .int .i64 sv, .slice a xs.length cap, .int .i64 mt, .int .i64 ta]] w fun e w' => e = .returned (.int .i64 (min 1000000000 (max 6000 (2 * bytesOf (bestOf xs) mt)))) ∧ Below w.heap.size w w' := by
  obtain ⟨hf, hm⟩ := pok_fil hp
  have b0 := best_num hf
  have m0 := tim_num hm
  obtain ⟨yb, hyb⟩ : ∃ y, bytesOf (bestOf xs) mt = y := ⟨_, rfl⟩
  have y0 : 0 ≤ yb ∧ yb ≤ 1000000000000000000 := by
    rw [← hyb, bytes_in b0.1 b0.2 m0.1 m0.2]
    obtain ⟨be, hbe⟩ : ∃ b, bestOf xs = b := ⟨_, rfl⟩
    rw [hbe] at b0 ⊢
    have p0 : 0 ≤ be * mt := Int.mul_nonneg b0.1 m0.1
    have p1 : be * mt ≤ 1000000000000 * 1000000000000000 := Int.mul_le_mul b0.2 m0.2 m0.1 (by omega)
    omega
  have HY : Hid (bytesOf (bestOf xs) mt = yb) := hyb
  rw [hyb]
  have r1 : IntKind.i64.wrap (2 * yb) = 2 * yb := by rw [IntKind.wrap_i64]; omega
  obtain ⟨x1, hx1⟩ : ∃ m : Int, max 6000 (2 * yb) = m := ⟨_, rfl⟩
  obtain ⟨x2, hx2⟩ : ∃ m : Int, min 1000000000 x1 = m := ⟨_, rfl⟩
  rw [hx1, hx2]
  have em : (if 2 * yb < 6000 then (6000 : Int) else 2 * yb) = x1 := by rw [← hx1]; split <;> omega
  have en : (if 1000000000 < x1 then (1000000000 : Int) else x1) = x2 := by rw [← hx2]; split <;> omega
  clear hf hm b0 m0 hyb hx1 hx2
  go_enter Try.func47, Try.ntmps47
  go_wp2_with (first
    | (go_at_call 52; refine (implProbeOk_is cap hp (smp.here (by go_grown))).mono ?_; rintro e w3 ⟨rfl, hb3⟩; have hbw : Below w.heap.size w w3 := below_two (by go_grown) hb3; have kc := below_cells4 hb3; have zl := hb3.size; (try simp at zl))
    | (go_at_call 99; refine (carried_any cap (smp.here (by go_grown))).mono ?_; rintro e w4 ⟨rfl, hb4⟩; rw [HY.out]))
  go_ret
  exact ⟨rfl, below_two hbw hb4⟩
end Go.Proofs.Ytiibafphgjlffae

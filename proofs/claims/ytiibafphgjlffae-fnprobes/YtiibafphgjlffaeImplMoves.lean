/- What impl's moves of a Probe answer: hasStayed, entered, cruising, withTrip, started, drained, cycled. -/
import Derived.Test.YtiibafphgjlffaeImplProbe
import Derived.Test.YtiibafphgjlffaeObsMath
namespace Go.Proofs.Ytiibafphgjlffae
open Go.ChangeShapes Go.WideShapes Go.ChangeAt Go.RowKit
set_option maxRecDepth 100000
set_option linter.unusedVariables false
set_option linter.unusedSimpArgs false

set_option maxHeartbeats 4000000 in
theorem stayed_is {sa cy sn tp sv mt ta now : Int} {w : World} {a : Option Addr} {n cap : Nat} {f : Bool} (r : IntKind.i64.wrap (now - sn) = now - sn) (hf : (decide (sa = 4) && decide (200000000 ≤ now - sn)) = f) : Calls Try.prog 125 #[.agg #[.int .i64 sa, .int .i64 cy, .int .i64 sn, .int .i64 tp, .int .i64 sv, .slice a n cap, .int .i64 mt, .int .i64 ta], .int .i64 now] w fun e w' => e = .returned (.bool f) ∧ w' = w.alloc (.cells #[.int .i64 sa, .int .i64 cy, .int .i64 sn, .int .i64 tp, .int .i64 sv, .slice a n cap, .int .i64 mt, .int .i64 ta] 53) := by
  by_cases k1 : sa = 4
  · subst k1
    by_cases k2 : 200000000 ≤ now - sn
    · obtain rfl : f = true := by rw [← hf]; simp [k2]
      clear hf
      go_enter Try.func125, Try.ntmps125
      go_wp2
      go_ret
      exact ⟨by simp [k2], rfl⟩
    · obtain rfl : f = false := by rw [← hf]; simp [k2]
      clear hf
      go_enter Try.func125, Try.ntmps125
      go_wp2
      go_ret
      exact ⟨by simp [k2], rfl⟩
  · obtain rfl : f = false := by rw [← hf]; simp [k1]
    clear hf
    go_enter Try.func125, Try.ntmps125
    go_wp2
    go_ret
    exact ⟨by simp [k1], rfl⟩
set_option maxHeartbeats 4000000 in
theorem entered_any {sa cy sn tp sv mt ta st now : Int} {w : World} {a : Option Addr} {n cap : Nat} : Calls Try.prog 130 #[.agg #[.int .i64 sa, .int .i64 cy, .int .i64 sn, .int .i64 tp, .int .i64 sv, .slice a n cap, .int .i64 mt, .int .i64 ta], .int .i64 st, .int .i64 now] w fun e w' => e = .returned (.agg #[.int .i64 st, .int .i64 cy, .int .i64 now, .int .i64 tp, .int .i64 sv, .slice a n cap, .int .i64 mt, .int .i64 ta]) ∧ Below w.heap.size w w' := by
  go_enter Try.func130, Try.ntmps130
  go_wp2
  refine bodyPost_ret (results_one rfl _ _ _ [.int .i64 st, .int .i64 cy, .int .i64 now, .int .i64 tp, .int .i64 sv, .slice a n cap, .int .i64 mt, .int .i64 ta] rfl (cells_eight (by go_simp) (by go_simp) (by go_simp) (by go_simp) (by go_simp) (by go_simp) (by go_simp) (by go_simp)) Try.underlying53 rfl (by kernel_rfl)) rfl ?_
  exact ⟨rfl, by go_grown⟩
set_option maxHeartbeats 4000000 in
theorem cruising_any {sa cy sn tp sv mt ta now : Int} {w : World} {a : Option Addr} {n cap : Nat} : Calls Try.prog 129 #[.agg #[.int .i64 sa, .int .i64 cy, .int .i64 sn, .int .i64 tp, .int .i64 sv, .slice a n cap, .int .i64 mt, .int .i64 ta], .int .i64 now] w fun e w' => e = .returned (.agg #[.int .i64 3, .int .i64 0, .int .i64 now, .int .i64 tp, .int .i64 sv, .slice a n cap, .int .i64 mt, .int .i64 ta]) ∧ Below w.heap.size w w' := by
  go_enter Try.func129, Try.ntmps129
  go_wp2_with (first
    | (go_at_call 130; refine (entered_any).mono ?_; rintro e w3 ⟨rfl, hbw3⟩; have hbw : Below w.heap.size w w3 := below_two (by go_grown) hbw3; have kc := below_cells4 hbw3; have kf := below_frozens4 hbw3; have zl := hbw3.size; (try simp at zl); have s0 : w3.cell? ⟨w.heap.size, 0, none⟩ = some (.int .i64 sa) := (kc _ _ (by simp; try omega)).trans (by go_simp); have s1 : w3.cell? ⟨w.heap.size, 1, none⟩ = some (.int .i64 0) := (kc _ _ (by simp; try omega)).trans (by go_simp); have s2 : w3.cell? ⟨w.heap.size, 2, none⟩ = some (.int .i64 sn) := (kc _ _ (by simp; try omega)).trans (by go_simp); have s3 : w3.cell? ⟨w.heap.size, 3, none⟩ = some (.int .i64 tp) := (kc _ _ (by simp; try omega)).trans (by go_simp); have s4 : w3.cell? ⟨w.heap.size, 4, none⟩ = some (.int .i64 sv) := (kc _ _ (by simp; try omega)).trans (by go_simp); have s5 : w3.cell? ⟨w.heap.size, 5, none⟩ = some (.slice a n cap) := (kc _ _ (by simp; try omega)).trans (by go_simp); have s6 : w3.cell? ⟨w.heap.size, 6, none⟩ = some (.int .i64 mt) := (kc _ _ (by simp; try omega)).trans (by go_simp); have s7 : w3.cell? ⟨w.heap.size, 7, none⟩ = some (.int .i64 ta) := (kc _ _ (by simp; try omega)).trans (by go_simp); have v0 : w3.cell? ⟨w.heap.size + 1, 0, none⟩ = some (.int .i64 0) := (kc _ _ (by simp; try omega)).trans (by go_simp); have v1 : w3.cell? ⟨w.heap.size + 1, 1, none⟩ = some (.int .i64 0) := (kc _ _ (by simp; try omega)).trans (by go_simp); have v2 : w3.cell? ⟨w.heap.size + 1, 2, none⟩ = some (.int .i64 0) := (kc _ _ (by simp; try omega)).trans (by go_simp); have v3 : w3.cell? ⟨w.heap.size + 1, 3, none⟩ = some (.int .i64 0) := (kc _ _ (by simp; try omega)).trans (by go_simp); have v4 : w3.cell? ⟨w.heap.size + 1, 4, none⟩ = some (.int .i64 0) := (kc _ _ (by simp; try omega)).trans (by go_simp); have v5 : w3.cell? ⟨w.heap.size + 1, 5, none⟩ = some (.slice none 0 0) := (kc _ _ (by simp; try omega)).trans (by go_simp); have v6 : w3.cell? ⟨w.heap.size + 1, 6, none⟩ = some (.int .i64 0) := (kc _ _ (by simp; try omega)).trans (by go_simp); have v7 : w3.cell? ⟨w.heap.size + 1, 7, none⟩ = some (.int .i64 0) := (kc _ _ (by simp; try omega)).trans (by go_simp); have sz : ∀ o : Nat, w3.frozen? ⟨w.heap.size, o, none⟩ = false := (fun o => (kf _ _ (by simp; try omega)).trans (by go_simp)); have vz : ∀ o : Nat, w3.frozen? ⟨w.heap.size + 1, o, none⟩ = false := (fun o => (kf _ _ (by simp; try omega)).trans (by go_simp)); clear kc kf))
  obtain ⟨y, ey, cs, far, fz, zy, hbel, hon⟩ := over8 (.int .i64 3) (.int .i64 0) (.int .i64 now) (.int .i64 tp) (.int .i64 sv) (.slice a n cap) (.int .i64 mt) (.int .i64 ta) (w := w3) (g := w.heap.size + 1) v0 v1 v2 v3 v4 v5 v6 v7
  rw [← ey]
  refine bodyPost_ret (results_one rfl _ _ _ [.int .i64 3, .int .i64 0, .int .i64 now, .int .i64 tp, .int .i64 sv, .slice a n cap, .int .i64 mt, .int .i64 ta] rfl cs Try.underlying53 rfl (by kernel_rfl)) rfl ?_
  exact ⟨rfl, hbw.trans (hbel _ (by omega))⟩
theorem obA_yes {now trip : Int} {p : Pb} (h : p.mt = 0 ∨ trip ≤ p.mt ∨ (p.sa = 4 ∧ 200000000 ≤ now - p.sn)) : obA now trip p = { p with mt := trip, ta := now } := by unfold obA; exact if_pos h
theorem obA_no {now trip : Int} {p : Pb} (h : ¬ (p.mt = 0 ∨ trip ≤ p.mt ∨ (p.sa = 4 ∧ 200000000 ≤ now - p.sn))) : obA now trip p = p := by unfold obA; exact if_neg h
set_option maxHeartbeats 4000000 in
theorem withTrip_is {sa cy sn tp sv mt ta now trip mt1 ta1 : Int} {w : World} {a : Option Addr} {n cap : Nat} (r : IntKind.i64.wrap (now - sn) = now - sn) (hA : obA now trip (⟨sa, cy, sn, tp, sv, mt, ta⟩ : Pb) = (⟨sa, cy, sn, tp, sv, mt1, ta1⟩ : Pb)) : Calls Try.prog 92 #[.agg #[.int .i64 sa, .int .i64 cy, .int .i64 sn, .int .i64 tp, .int .i64 sv, .slice a n cap, .int .i64 mt, .int .i64 ta], .int .i64 now, .int .i64 trip] w fun e w' => e = .returned (.agg #[.int .i64 sa, .int .i64 cy, .int .i64 sn, .int .i64 tp, .int .i64 sv, .slice a n cap, .int .i64 mt1, .int .i64 ta1]) ∧ Below w.heap.size w w' := by
  by_cases k1 : mt = 0
  · subst k1
    rw [obA_yes (.inl rfl)] at hA
    injection hA with _ _ _ _ _ e1 e2
    have e1 : trip = mt1 := e1
    have e2 : now = ta1 := e2
    subst e1 e2
    go_enter Try.func92, Try.ntmps92
    go_wp2
    refine bodyPost_ret (results_one rfl _ _ _ [.int .i64 sa, .int .i64 cy, .int .i64 sn, .int .i64 tp, .int .i64 sv, .slice a n cap, .int .i64 trip, .int .i64 now] rfl (cells_eight (by go_simp) (by go_simp) (by go_simp) (by go_simp) (by go_simp) (by go_simp) (by go_simp) (by go_simp)) Try.underlying53 rfl (by kernel_rfl)) rfl ?_
    exact ⟨rfl, by go_grown⟩
  by_cases k2 : trip ≤ mt
  · rw [obA_yes (.inr (.inl k2))] at hA
    injection hA with _ _ _ _ _ e1 e2
    have e1 : trip = mt1 := e1
    have e2 : now = ta1 := e2
    subst e1 e2
    go_enter Try.func92, Try.ntmps92
    go_wp2
    refine bodyPost_ret (results_one rfl _ _ _ [.int .i64 sa, .int .i64 cy, .int .i64 sn, .int .i64 tp, .int .i64 sv, .slice a n cap, .int .i64 trip, .int .i64 now] rfl (cells_eight (by go_simp) (by go_simp) (by go_simp) (by go_simp) (by go_simp) (by go_simp) (by go_simp) (by go_simp)) Try.underlying53 rfl (by kernel_rfl)) rfl ?_
    exact ⟨rfl, by go_grown⟩
  by_cases k3 : sa = 4
  · subst k3
    by_cases k4 : 200000000 ≤ now - sn
    · rw [obA_yes (.inr (.inr ⟨rfl, k4⟩))] at hA
      injection hA with _ _ _ _ _ e1 e2
      have e1 : trip = mt1 := e1
      have e2 : now = ta1 := e2
      subst e1 e2
      go_enter Try.func92, Try.ntmps92
      go_wp2_with (first
        | (go_at_call 125; refine (stayed_is r (f := true) (by simp [k4])).mono ?_; rintro e w2 ⟨rfl, rfl⟩))
      refine bodyPost_ret (results_one rfl _ _ _ [.int .i64 4, .int .i64 cy, .int .i64 sn, .int .i64 tp, .int .i64 sv, .slice a n cap, .int .i64 trip, .int .i64 now] rfl (cells_eight (by go_simp) (by go_simp) (by go_simp) (by go_simp) (by go_simp) (by go_simp) (by go_simp) (by go_simp)) Try.underlying53 rfl (by kernel_rfl)) rfl ?_
      exact ⟨rfl, by go_grown⟩
    · rw [obA_no (fun h => by rcases h with h | h | h; exact k1 h; exact k2 h; exact k4 h.2)] at hA
      injection hA with _ _ _ _ _ e1 e2
      have e1 : mt = mt1 := e1
      have e2 : ta = ta1 := e2
      subst e1 e2
      go_enter Try.func92, Try.ntmps92
      go_wp2_with (first
        | (go_at_call 125; refine (stayed_is r (f := false) (by simp [k4])).mono ?_; rintro e w2 ⟨rfl, rfl⟩))
      refine bodyPost_ret (results_one rfl _ _ _ [.int .i64 4, .int .i64 cy, .int .i64 sn, .int .i64 tp, .int .i64 sv, .slice a n cap, .int .i64 mt, .int .i64 ta] rfl (cells_eight (by go_simp) (by go_simp) (by go_simp) (by go_simp) (by go_simp) (by go_simp) (by go_simp) (by go_simp)) Try.underlying53 rfl (by kernel_rfl)) rfl ?_
      exact ⟨rfl, by go_grown⟩
  · rw [obA_no (fun h => by rcases h with h | h | h; exact k1 h; exact k2 h; exact k3 h.1)] at hA
    injection hA with _ _ _ _ _ e1 e2
    have e1 : mt = mt1 := e1
    have e2 : ta = ta1 := e2
    subst e1 e2
    go_enter Try.func92, Try.ntmps92
    go_wp2_with (first
      | (go_at_call 125; refine (stayed_is r (f := false) (by simp [k3])).mono ?_; rintro e w2 ⟨rfl, rfl⟩))
    refine bodyPost_ret (results_one rfl _ _ _ [.int .i64 sa, .int .i64 cy, .int .i64 sn, .int .i64 tp, .int .i64 sv, .slice a n cap, .int .i64 mt, .int .i64 ta] rfl (cells_eight (by go_simp) (by go_simp) (by go_simp) (by go_simp) (by go_simp) (by go_simp) (by go_simp) (by go_simp)) Try.underlying53 rfl (by kernel_rfl)) rfl ?_
    exact ⟨rfl, by go_grown⟩
theorem obB_up {now be cy sn tp sv mt ta : Int} (h : 5 * tp / 4 < be) : obB now be ⟨1, cy, sn, tp, sv, mt, ta⟩ = ⟨1, cy, sn, be, 0, mt, ta⟩ := by unfold obB; exact (if_pos rfl).trans (if_pos h)
theorem obB_drain {now be cy sn tp sv mt ta : Int} (h : ¬ 5 * tp / 4 < be) (k : min 3 (sv + 1) = 3) : obB now be ⟨1, cy, sn, tp, sv, mt, ta⟩ = ⟨2, cy, now, tp, 3, mt, ta⟩ := by unfold obB; exact (if_pos rfl).trans ((if_neg h).trans (if_pos k))
theorem obB_stale {now be cy sn tp sv mt ta : Int} (h : ¬ 5 * tp / 4 < be) (k : ¬ min 3 (sv + 1) = 3) : obB now be ⟨1, cy, sn, tp, sv, mt, ta⟩ = ⟨1, cy, sn, tp, min 3 (sv + 1), mt, ta⟩ := by unfold obB; exact (if_pos rfl).trans ((if_neg h).trans (if_neg k))
set_option maxHeartbeats 4000000 in
theorem started_is {cy sn tp sv mt ta now be sa2 sn2 tp2 sv2 : Int} {w : World} {a : Option Addr} (cap : Nat) {xs : List (Int × Int)} (HBE : Hid (bestOf xs = be)) (htp : 0 ≤ tp ∧ tp ≤ 1000000000000) (hsv : 0 ≤ sv ∧ sv ≤ 3) (hB : obB now be (⟨1, cy, sn, tp, sv, mt, ta⟩ : Pb) = (⟨sa2, cy, sn2, tp2, sv2, mt, ta⟩ : Pb)) (smp : Smp w.heap.size w a xs) : Calls Try.prog 126 #[.agg #[.int .i64 1, .int .i64 cy, .int .i64 sn, .int .i64 tp, .int .i64 sv, .slice a xs.length cap, .int .i64 mt, .int .i64 ta], .int .i64 now] w fun e w' => e = .returned (.agg #[.int .i64 sa2, .int .i64 cy, .int .i64 sn2, .int .i64 tp2, .int .i64 sv2, .slice a xs.length cap, .int .i64 mt, .int .i64 ta]) ∧ Below w.heap.size w w' := by
  have e1 : IntKind.i64.wrap (5 * tp) = 5 * tp := by rw [IntKind.wrap_i64]; omega
  have e2 := tdiv10 (x := 5 * tp) (by omega) 4
  have e3 : IntKind.i64.wrap (5 * tp / 4) = 5 * tp / 4 := by rw [IntKind.wrap_i64]; omega
  have e4 : IntKind.i64.wrap (sv + 1) = sv + 1 := by rw [IntKind.wrap_i64]; omega
  by_cases k1 : 5 * tp / 4 < be
  · rw [obB_up k1] at hB
    injection hB with q1 _ q3 q4 q5
    have q1 : (1 : Int) = sa2 := q1
    have q3 : (sn : Int) = sn2 := q3
    have q4 : (be : Int) = tp2 := q4
    have q5 : (0 : Int) = sv2 := q5
    subst q1 q3 q4 q5
    go_enter Try.func126, Try.ntmps126
    go_upto_region 5 with (first
      | (go_at_call 98; refine (implBest_any cap (smp.here (by go_grown)) (Nat.le_refl _)).mono ?_; rintro e w3 ⟨rfl, hbw3⟩; rw [HBE.out]; have hbw : Below w.heap.size w w3 := below_two (by go_grown) hbw3; have kc := below_cells4 hbw3; have kf := below_frozens4 hbw3; have zl := hbw3.size; (try simp at zl); have s0 : w3.cell? ⟨w.heap.size, 0, none⟩ = some (.int .i64 1) := (kc _ _ (by simp; try omega)).trans (by go_simp); have s1 : w3.cell? ⟨w.heap.size, 1, none⟩ = some (.int .i64 cy) := (kc _ _ (by simp; try omega)).trans (by go_simp); have s2 : w3.cell? ⟨w.heap.size, 2, none⟩ = some (.int .i64 sn) := (kc _ _ (by simp; try omega)).trans (by go_simp); have s3 : w3.cell? ⟨w.heap.size, 3, none⟩ = some (.int .i64 tp) := (kc _ _ (by simp; try omega)).trans (by go_simp); have s4 : w3.cell? ⟨w.heap.size, 4, none⟩ = some (.int .i64 sv) := (kc _ _ (by simp; try omega)).trans (by go_simp); have s5 : w3.cell? ⟨w.heap.size, 5, none⟩ = some (.slice a xs.length cap) := (kc _ _ (by simp; try omega)).trans (by go_simp); have s6 : w3.cell? ⟨w.heap.size, 6, none⟩ = some (.int .i64 mt) := (kc _ _ (by simp; try omega)).trans (by go_simp); have s7 : w3.cell? ⟨w.heap.size, 7, none⟩ = some (.int .i64 ta) := (kc _ _ (by simp; try omega)).trans (by go_simp); have v0 : w3.cell? ⟨w.heap.size + 1, 0, none⟩ = some (.int .i64 0) := (kc _ _ (by simp; try omega)).trans (by go_simp); have v1 : w3.cell? ⟨w.heap.size + 1, 1, none⟩ = some (.int .i64 0) := (kc _ _ (by simp; try omega)).trans (by go_simp); have v2 : w3.cell? ⟨w.heap.size + 1, 2, none⟩ = some (.int .i64 0) := (kc _ _ (by simp; try omega)).trans (by go_simp); have v3 : w3.cell? ⟨w.heap.size + 1, 3, none⟩ = some (.int .i64 0) := (kc _ _ (by simp; try omega)).trans (by go_simp); have v4 : w3.cell? ⟨w.heap.size + 1, 4, none⟩ = some (.int .i64 0) := (kc _ _ (by simp; try omega)).trans (by go_simp); have v5 : w3.cell? ⟨w.heap.size + 1, 5, none⟩ = some (.slice none 0 0) := (kc _ _ (by simp; try omega)).trans (by go_simp); have v6 : w3.cell? ⟨w.heap.size + 1, 6, none⟩ = some (.int .i64 0) := (kc _ _ (by simp; try omega)).trans (by go_simp); have v7 : w3.cell? ⟨w.heap.size + 1, 7, none⟩ = some (.int .i64 0) := (kc _ _ (by simp; try omega)).trans (by go_simp); have sz : ∀ o : Nat, w3.frozen? ⟨w.heap.size, o, none⟩ = false := (fun o => (kf _ _ (by simp; try omega)).trans (by go_simp)); have vz : ∀ o : Nat, w3.frozen? ⟨w.heap.size + 1, o, none⟩ = false := (fun o => (kf _ _ (by simp; try omega)).trans (by go_simp)); clear kc kf))
    obtain ⟨x9, hx9⟩ : ∃ x, x = ((w3.setCell ⟨w.heap.size, 3, none⟩ (.int .i64 be)).setCell ⟨w.heap.size, 4, none⟩ (.int .i64 0)) := ⟨_, rfl⟩
    rw [← hx9]
    have s0 : x9.cell? ⟨w.heap.size, 0, none⟩ = some (.int .i64 1) := by rw [hx9]; exact ((set_other4 (by decide)).trans (((set_other4 (by decide)).trans (s0))))
    have s1 : x9.cell? ⟨w.heap.size, 1, none⟩ = some (.int .i64 cy) := by rw [hx9]; exact ((set_other4 (by decide)).trans (((set_other4 (by decide)).trans (s1))))
    have s2 : x9.cell? ⟨w.heap.size, 2, none⟩ = some (.int .i64 sn) := by rw [hx9]; exact ((set_other4 (by decide)).trans (((set_other4 (by decide)).trans (s2))))
    have s3 : x9.cell? ⟨w.heap.size, 3, none⟩ = some (.int .i64 be) := by rw [hx9]; exact ((set_other4 (by decide)).trans ((set_same4 _ (s3))))
    have s4 : x9.cell? ⟨w.heap.size, 4, none⟩ = some (.int .i64 0) := by rw [hx9]; exact (set_same4 _ (((set_other4 (by decide)).trans (s4))))
    have s5 : x9.cell? ⟨w.heap.size, 5, none⟩ = some (.slice a xs.length cap) := by rw [hx9]; exact ((set_other4 (by decide)).trans (((set_other4 (by decide)).trans (s5))))
    have s6 : x9.cell? ⟨w.heap.size, 6, none⟩ = some (.int .i64 mt) := by rw [hx9]; exact ((set_other4 (by decide)).trans (((set_other4 (by decide)).trans (s6))))
    have s7 : x9.cell? ⟨w.heap.size, 7, none⟩ = some (.int .i64 ta) := by rw [hx9]; exact ((set_other4 (by decide)).trans (((set_other4 (by decide)).trans (s7))))
    have oX : Only w.heap.size w3 x9 := by rw [hx9]; exact ((only_set3x _ _ _ _).trans (only_set3x _ _ _ _))
    have v0 : x9.cell? ⟨w.heap.size + 1, 0, none⟩ = some (.int .i64 0) := (oX.cell (by show w.heap.size + 1 < _; omega) (by show w.heap.size + 1 ≠ _; omega)).trans v0
    have v1 : x9.cell? ⟨w.heap.size + 1, 1, none⟩ = some (.int .i64 0) := (oX.cell (by show w.heap.size + 1 < _; omega) (by show w.heap.size + 1 ≠ _; omega)).trans v1
    have v2 : x9.cell? ⟨w.heap.size + 1, 2, none⟩ = some (.int .i64 0) := (oX.cell (by show w.heap.size + 1 < _; omega) (by show w.heap.size + 1 ≠ _; omega)).trans v2
    have v3 : x9.cell? ⟨w.heap.size + 1, 3, none⟩ = some (.int .i64 0) := (oX.cell (by show w.heap.size + 1 < _; omega) (by show w.heap.size + 1 ≠ _; omega)).trans v3
    have v4 : x9.cell? ⟨w.heap.size + 1, 4, none⟩ = some (.int .i64 0) := (oX.cell (by show w.heap.size + 1 < _; omega) (by show w.heap.size + 1 ≠ _; omega)).trans v4
    have v5 : x9.cell? ⟨w.heap.size + 1, 5, none⟩ = some (.slice none 0 0) := (oX.cell (by show w.heap.size + 1 < _; omega) (by show w.heap.size + 1 ≠ _; omega)).trans v5
    have v6 : x9.cell? ⟨w.heap.size + 1, 6, none⟩ = some (.int .i64 0) := (oX.cell (by show w.heap.size + 1 < _; omega) (by show w.heap.size + 1 ≠ _; omega)).trans v6
    have v7 : x9.cell? ⟨w.heap.size + 1, 7, none⟩ = some (.int .i64 0) := (oX.cell (by show w.heap.size + 1 < _; omega) (by show w.heap.size + 1 ≠ _; omega)).trans v7
    have vz : ∀ o : Nat, x9.frozen? ⟨w.heap.size + 1, o, none⟩ = false := fun o => (oX.frozen (by show w.heap.size + 1 < _; omega) (by show w.heap.size + 1 ≠ _; omega)).trans (vz o)
    have sz : ∀ o : Nat, x9.frozen? ⟨w.heap.size, o, none⟩ = false := fun o => by rw [hx9]; simpa using sz o
    have hbw : Below w.heap.size w x9 := hbw.trans (oX.below (Nat.le_refl _) (by omega))
    have zl : w.heap.size + 1 + 1 ≤ x9.heap.size := Nat.le_trans zl oX.size
    clear hx9 oX
    go_wp2
    obtain ⟨y, ey, cs, far, fz, zy, hbel, hon⟩ := over8 (.int .i64 1) (.int .i64 cy) (.int .i64 sn) (.int .i64 be) (.int .i64 0) (.slice a xs.length cap) (.int .i64 mt) (.int .i64 ta) (w := x9) (g := w.heap.size + 1) v0 v1 v2 v3 v4 v5 v6 v7
    rw [← ey]
    refine bodyPost_ret (results_one rfl _ _ _ [.int .i64 1, .int .i64 cy, .int .i64 sn, .int .i64 be, .int .i64 0, .slice a xs.length cap, .int .i64 mt, .int .i64 ta] rfl cs Try.underlying53 rfl (by kernel_rfl)) rfl ?_
    exact ⟨rfl, hbw.trans (hbel _ (by omega))⟩
  by_cases k2 : min 3 (sv + 1) = 3
  · have em : (if 3 < sv + 1 then (3 : Int) else sv + 1) = 3 := by rw [← k2]; split <;> omega
    rw [obB_drain k1 k2] at hB
    injection hB with q1 _ q3 q4 q5
    have q1 : (2 : Int) = sa2 := q1
    have q3 : (now : Int) = sn2 := q3
    have q4 : (tp : Int) = tp2 := q4
    have q5 : (3 : Int) = sv2 := q5
    subst q1 q3 q4 q5
    go_enter Try.func126, Try.ntmps126
    go_upto_region 7 with (first
      | (go_at_call 98; refine (implBest_any cap (smp.here (by go_grown)) (Nat.le_refl _)).mono ?_; rintro e w3 ⟨rfl, hbw3⟩; rw [HBE.out]; have hbw : Below w.heap.size w w3 := below_two (by go_grown) hbw3; have kc := below_cells4 hbw3; have kf := below_frozens4 hbw3; have zl := hbw3.size; (try simp at zl); have s0 : w3.cell? ⟨w.heap.size, 0, none⟩ = some (.int .i64 1) := (kc _ _ (by simp; try omega)).trans (by go_simp); have s1 : w3.cell? ⟨w.heap.size, 1, none⟩ = some (.int .i64 cy) := (kc _ _ (by simp; try omega)).trans (by go_simp); have s2 : w3.cell? ⟨w.heap.size, 2, none⟩ = some (.int .i64 sn) := (kc _ _ (by simp; try omega)).trans (by go_simp); have s3 : w3.cell? ⟨w.heap.size, 3, none⟩ = some (.int .i64 tp) := (kc _ _ (by simp; try omega)).trans (by go_simp); have s4 : w3.cell? ⟨w.heap.size, 4, none⟩ = some (.int .i64 sv) := (kc _ _ (by simp; try omega)).trans (by go_simp); have s5 : w3.cell? ⟨w.heap.size, 5, none⟩ = some (.slice a xs.length cap) := (kc _ _ (by simp; try omega)).trans (by go_simp); have s6 : w3.cell? ⟨w.heap.size, 6, none⟩ = some (.int .i64 mt) := (kc _ _ (by simp; try omega)).trans (by go_simp); have s7 : w3.cell? ⟨w.heap.size, 7, none⟩ = some (.int .i64 ta) := (kc _ _ (by simp; try omega)).trans (by go_simp); have v0 : w3.cell? ⟨w.heap.size + 1, 0, none⟩ = some (.int .i64 0) := (kc _ _ (by simp; try omega)).trans (by go_simp); have v1 : w3.cell? ⟨w.heap.size + 1, 1, none⟩ = some (.int .i64 0) := (kc _ _ (by simp; try omega)).trans (by go_simp); have v2 : w3.cell? ⟨w.heap.size + 1, 2, none⟩ = some (.int .i64 0) := (kc _ _ (by simp; try omega)).trans (by go_simp); have v3 : w3.cell? ⟨w.heap.size + 1, 3, none⟩ = some (.int .i64 0) := (kc _ _ (by simp; try omega)).trans (by go_simp); have v4 : w3.cell? ⟨w.heap.size + 1, 4, none⟩ = some (.int .i64 0) := (kc _ _ (by simp; try omega)).trans (by go_simp); have v5 : w3.cell? ⟨w.heap.size + 1, 5, none⟩ = some (.slice none 0 0) := (kc _ _ (by simp; try omega)).trans (by go_simp); have v6 : w3.cell? ⟨w.heap.size + 1, 6, none⟩ = some (.int .i64 0) := (kc _ _ (by simp; try omega)).trans (by go_simp); have v7 : w3.cell? ⟨w.heap.size + 1, 7, none⟩ = some (.int .i64 0) := (kc _ _ (by simp; try omega)).trans (by go_simp); have sz : ∀ o : Nat, w3.frozen? ⟨w.heap.size, o, none⟩ = false := (fun o => (kf _ _ (by simp; try omega)).trans (by go_simp)); have vz : ∀ o : Nat, w3.frozen? ⟨w.heap.size + 1, o, none⟩ = false := (fun o => (kf _ _ (by simp; try omega)).trans (by go_simp)); clear kc kf))
    obtain ⟨x9, hx9⟩ : ∃ x, x = (w3.setCell ⟨w.heap.size, 4, none⟩ (.int .i64 3)) := ⟨_, rfl⟩
    rw [← hx9]
    have s0 : x9.cell? ⟨w.heap.size, 0, none⟩ = some (.int .i64 1) := by rw [hx9]; exact ((set_other4 (by decide)).trans (s0))
    have s1 : x9.cell? ⟨w.heap.size, 1, none⟩ = some (.int .i64 cy) := by rw [hx9]; exact ((set_other4 (by decide)).trans (s1))
    have s2 : x9.cell? ⟨w.heap.size, 2, none⟩ = some (.int .i64 sn) := by rw [hx9]; exact ((set_other4 (by decide)).trans (s2))
    have s3 : x9.cell? ⟨w.heap.size, 3, none⟩ = some (.int .i64 tp) := by rw [hx9]; exact ((set_other4 (by decide)).trans (s3))
    have s4 : x9.cell? ⟨w.heap.size, 4, none⟩ = some (.int .i64 3) := by rw [hx9]; exact (set_same4 _ (s4))
    have s5 : x9.cell? ⟨w.heap.size, 5, none⟩ = some (.slice a xs.length cap) := by rw [hx9]; exact ((set_other4 (by decide)).trans (s5))
    have s6 : x9.cell? ⟨w.heap.size, 6, none⟩ = some (.int .i64 mt) := by rw [hx9]; exact ((set_other4 (by decide)).trans (s6))
    have s7 : x9.cell? ⟨w.heap.size, 7, none⟩ = some (.int .i64 ta) := by rw [hx9]; exact ((set_other4 (by decide)).trans (s7))
    have oX : Only w.heap.size w3 x9 := by rw [hx9]; exact (only_set3x _ _ _ _)
    have v0 : x9.cell? ⟨w.heap.size + 1, 0, none⟩ = some (.int .i64 0) := (oX.cell (by show w.heap.size + 1 < _; omega) (by show w.heap.size + 1 ≠ _; omega)).trans v0
    have v1 : x9.cell? ⟨w.heap.size + 1, 1, none⟩ = some (.int .i64 0) := (oX.cell (by show w.heap.size + 1 < _; omega) (by show w.heap.size + 1 ≠ _; omega)).trans v1
    have v2 : x9.cell? ⟨w.heap.size + 1, 2, none⟩ = some (.int .i64 0) := (oX.cell (by show w.heap.size + 1 < _; omega) (by show w.heap.size + 1 ≠ _; omega)).trans v2
    have v3 : x9.cell? ⟨w.heap.size + 1, 3, none⟩ = some (.int .i64 0) := (oX.cell (by show w.heap.size + 1 < _; omega) (by show w.heap.size + 1 ≠ _; omega)).trans v3
    have v4 : x9.cell? ⟨w.heap.size + 1, 4, none⟩ = some (.int .i64 0) := (oX.cell (by show w.heap.size + 1 < _; omega) (by show w.heap.size + 1 ≠ _; omega)).trans v4
    have v5 : x9.cell? ⟨w.heap.size + 1, 5, none⟩ = some (.slice none 0 0) := (oX.cell (by show w.heap.size + 1 < _; omega) (by show w.heap.size + 1 ≠ _; omega)).trans v5
    have v6 : x9.cell? ⟨w.heap.size + 1, 6, none⟩ = some (.int .i64 0) := (oX.cell (by show w.heap.size + 1 < _; omega) (by show w.heap.size + 1 ≠ _; omega)).trans v6
    have v7 : x9.cell? ⟨w.heap.size + 1, 7, none⟩ = some (.int .i64 0) := (oX.cell (by show w.heap.size + 1 < _; omega) (by show w.heap.size + 1 ≠ _; omega)).trans v7
    have vz : ∀ o : Nat, x9.frozen? ⟨w.heap.size + 1, o, none⟩ = false := fun o => (oX.frozen (by show w.heap.size + 1 < _; omega) (by show w.heap.size + 1 ≠ _; omega)).trans (vz o)
    have sz : ∀ o : Nat, x9.frozen? ⟨w.heap.size, o, none⟩ = false := fun o => by rw [hx9]; simpa using sz o
    have hbw : Below w.heap.size w x9 := hbw.trans (oX.below (Nat.le_refl _) (by omega))
    have zl : w.heap.size + 1 + 1 ≤ x9.heap.size := Nat.le_trans zl oX.size
    clear hx9 oX
    go_wp2_with (first
      | (go_at_call 130; refine (entered_any).mono ?_; rintro e w4 ⟨rfl, hbw4⟩; have hbw : Below w.heap.size w w4 := below_two hbw hbw4; have s0 := (hbw4.cell (p := ⟨w.heap.size, 0, none⟩) (by show w.heap.size < _; omega)).trans s0; have s1 := (hbw4.cell (p := ⟨w.heap.size, 1, none⟩) (by show w.heap.size < _; omega)).trans s1; have s2 := (hbw4.cell (p := ⟨w.heap.size, 2, none⟩) (by show w.heap.size < _; omega)).trans s2; have s3 := (hbw4.cell (p := ⟨w.heap.size, 3, none⟩) (by show w.heap.size < _; omega)).trans s3; have s4 := (hbw4.cell (p := ⟨w.heap.size, 4, none⟩) (by show w.heap.size < _; omega)).trans s4; have s5 := (hbw4.cell (p := ⟨w.heap.size, 5, none⟩) (by show w.heap.size < _; omega)).trans s5; have s6 := (hbw4.cell (p := ⟨w.heap.size, 6, none⟩) (by show w.heap.size < _; omega)).trans s6; have s7 := (hbw4.cell (p := ⟨w.heap.size, 7, none⟩) (by show w.heap.size < _; omega)).trans s7; have v0 := (hbw4.cell (p := ⟨w.heap.size + 1, 0, none⟩) (by show w.heap.size + 1 < _; omega)).trans v0; have v1 := (hbw4.cell (p := ⟨w.heap.size + 1, 1, none⟩) (by show w.heap.size + 1 < _; omega)).trans v1; have v2 := (hbw4.cell (p := ⟨w.heap.size + 1, 2, none⟩) (by show w.heap.size + 1 < _; omega)).trans v2; have v3 := (hbw4.cell (p := ⟨w.heap.size + 1, 3, none⟩) (by show w.heap.size + 1 < _; omega)).trans v3; have v4 := (hbw4.cell (p := ⟨w.heap.size + 1, 4, none⟩) (by show w.heap.size + 1 < _; omega)).trans v4; have v5 := (hbw4.cell (p := ⟨w.heap.size + 1, 5, none⟩) (by show w.heap.size + 1 < _; omega)).trans v5; have v6 := (hbw4.cell (p := ⟨w.heap.size + 1, 6, none⟩) (by show w.heap.size + 1 < _; omega)).trans v6; have v7 := (hbw4.cell (p := ⟨w.heap.size + 1, 7, none⟩) (by show w.heap.size + 1 < _; omega)).trans v7; have vz : ∀ o : Nat, w4.frozen? ⟨w.heap.size + 1, o, none⟩ = false := fun o => (hbw4.frozen (p := ⟨w.heap.size + 1, o, none⟩) (by show w.heap.size + 1 < _; omega)).trans (vz o); have sz : ∀ o : Nat, w4.frozen? ⟨w.heap.size, o, none⟩ = false := fun o => (hbw4.frozen (p := ⟨w.heap.size, o, none⟩) (by show w.heap.size < _; omega)).trans (sz o); have zl : w.heap.size + 1 + 1 ≤ w4.heap.size := Nat.le_trans zl hbw4.size))
    obtain ⟨y, ey, cs, far, fz, zy, hbel, hon⟩ := over8 (.int .i64 2) (.int .i64 cy) (.int .i64 now) (.int .i64 tp) (.int .i64 3) (.slice a xs.length cap) (.int .i64 mt) (.int .i64 ta) (w := w4) (g := w.heap.size + 1) v0 v1 v2 v3 v4 v5 v6 v7
    rw [← ey]
    refine bodyPost_ret (results_one rfl _ _ _ [.int .i64 2, .int .i64 cy, .int .i64 now, .int .i64 tp, .int .i64 3, .slice a xs.length cap, .int .i64 mt, .int .i64 ta] rfl cs Try.underlying53 rfl (by kernel_rfl)) rfl ?_
    exact ⟨rfl, hbw.trans (hbel _ (by omega))⟩
  · obtain ⟨m3, hm3⟩ : ∃ m, min 3 (sv + 1) = m := ⟨_, rfl⟩
    have em : (if 3 < sv + 1 then (3 : Int) else sv + 1) = m3 := by rw [← hm3]; split <;> omega
    have kB := obB_stale (now := now) (be := be) (cy := cy) (sn := sn) (mt := mt) (ta := ta) k1 k2
    rw [hm3] at k2 kB
    rw [kB] at hB
    injection hB with q1 _ q3 q4 q5
    have q1 : (1 : Int) = sa2 := q1
    have q3 : (sn : Int) = sn2 := q3
    have q4 : (tp : Int) = tp2 := q4
    have q5 : (m3 : Int) = sv2 := q5
    subst q1 q3 q4 q5
    clear kB hm3
    go_enter Try.func126, Try.ntmps126
    go_upto_region 7 with (first
      | (go_at_call 98; refine (implBest_any cap (smp.here (by go_grown)) (Nat.le_refl _)).mono ?_; rintro e w3 ⟨rfl, hbw3⟩; rw [HBE.out]; have hbw : Below w.heap.size w w3 := below_two (by go_grown) hbw3; have kc := below_cells4 hbw3; have kf := below_frozens4 hbw3; have zl := hbw3.size; (try simp at zl); have s0 : w3.cell? ⟨w.heap.size, 0, none⟩ = some (.int .i64 1) := (kc _ _ (by simp; try omega)).trans (by go_simp); have s1 : w3.cell? ⟨w.heap.size, 1, none⟩ = some (.int .i64 cy) := (kc _ _ (by simp; try omega)).trans (by go_simp); have s2 : w3.cell? ⟨w.heap.size, 2, none⟩ = some (.int .i64 sn) := (kc _ _ (by simp; try omega)).trans (by go_simp); have s3 : w3.cell? ⟨w.heap.size, 3, none⟩ = some (.int .i64 tp) := (kc _ _ (by simp; try omega)).trans (by go_simp); have s4 : w3.cell? ⟨w.heap.size, 4, none⟩ = some (.int .i64 sv) := (kc _ _ (by simp; try omega)).trans (by go_simp); have s5 : w3.cell? ⟨w.heap.size, 5, none⟩ = some (.slice a xs.length cap) := (kc _ _ (by simp; try omega)).trans (by go_simp); have s6 : w3.cell? ⟨w.heap.size, 6, none⟩ = some (.int .i64 mt) := (kc _ _ (by simp; try omega)).trans (by go_simp); have s7 : w3.cell? ⟨w.heap.size, 7, none⟩ = some (.int .i64 ta) := (kc _ _ (by simp; try omega)).trans (by go_simp); have v0 : w3.cell? ⟨w.heap.size + 1, 0, none⟩ = some (.int .i64 0) := (kc _ _ (by simp; try omega)).trans (by go_simp); have v1 : w3.cell? ⟨w.heap.size + 1, 1, none⟩ = some (.int .i64 0) := (kc _ _ (by simp; try omega)).trans (by go_simp); have v2 : w3.cell? ⟨w.heap.size + 1, 2, none⟩ = some (.int .i64 0) := (kc _ _ (by simp; try omega)).trans (by go_simp); have v3 : w3.cell? ⟨w.heap.size + 1, 3, none⟩ = some (.int .i64 0) := (kc _ _ (by simp; try omega)).trans (by go_simp); have v4 : w3.cell? ⟨w.heap.size + 1, 4, none⟩ = some (.int .i64 0) := (kc _ _ (by simp; try omega)).trans (by go_simp); have v5 : w3.cell? ⟨w.heap.size + 1, 5, none⟩ = some (.slice none 0 0) := (kc _ _ (by simp; try omega)).trans (by go_simp); have v6 : w3.cell? ⟨w.heap.size + 1, 6, none⟩ = some (.int .i64 0) := (kc _ _ (by simp; try omega)).trans (by go_simp); have v7 : w3.cell? ⟨w.heap.size + 1, 7, none⟩ = some (.int .i64 0) := (kc _ _ (by simp; try omega)).trans (by go_simp); have sz : ∀ o : Nat, w3.frozen? ⟨w.heap.size, o, none⟩ = false := (fun o => (kf _ _ (by simp; try omega)).trans (by go_simp)); have vz : ∀ o : Nat, w3.frozen? ⟨w.heap.size + 1, o, none⟩ = false := (fun o => (kf _ _ (by simp; try omega)).trans (by go_simp)); clear kc kf))
    obtain ⟨x9, hx9⟩ : ∃ x, x = (w3.setCell ⟨w.heap.size, 4, none⟩ (.int .i64 m3)) := ⟨_, rfl⟩
    rw [← hx9]
    have s0 : x9.cell? ⟨w.heap.size, 0, none⟩ = some (.int .i64 1) := by rw [hx9]; exact ((set_other4 (by decide)).trans (s0))
    have s1 : x9.cell? ⟨w.heap.size, 1, none⟩ = some (.int .i64 cy) := by rw [hx9]; exact ((set_other4 (by decide)).trans (s1))
    have s2 : x9.cell? ⟨w.heap.size, 2, none⟩ = some (.int .i64 sn) := by rw [hx9]; exact ((set_other4 (by decide)).trans (s2))
    have s3 : x9.cell? ⟨w.heap.size, 3, none⟩ = some (.int .i64 tp) := by rw [hx9]; exact ((set_other4 (by decide)).trans (s3))
    have s4 : x9.cell? ⟨w.heap.size, 4, none⟩ = some (.int .i64 m3) := by rw [hx9]; exact (set_same4 _ (s4))
    have s5 : x9.cell? ⟨w.heap.size, 5, none⟩ = some (.slice a xs.length cap) := by rw [hx9]; exact ((set_other4 (by decide)).trans (s5))
    have s6 : x9.cell? ⟨w.heap.size, 6, none⟩ = some (.int .i64 mt) := by rw [hx9]; exact ((set_other4 (by decide)).trans (s6))
    have s7 : x9.cell? ⟨w.heap.size, 7, none⟩ = some (.int .i64 ta) := by rw [hx9]; exact ((set_other4 (by decide)).trans (s7))
    have oX : Only w.heap.size w3 x9 := by rw [hx9]; exact (only_set3x _ _ _ _)
    have v0 : x9.cell? ⟨w.heap.size + 1, 0, none⟩ = some (.int .i64 0) := (oX.cell (by show w.heap.size + 1 < _; omega) (by show w.heap.size + 1 ≠ _; omega)).trans v0
    have v1 : x9.cell? ⟨w.heap.size + 1, 1, none⟩ = some (.int .i64 0) := (oX.cell (by show w.heap.size + 1 < _; omega) (by show w.heap.size + 1 ≠ _; omega)).trans v1
    have v2 : x9.cell? ⟨w.heap.size + 1, 2, none⟩ = some (.int .i64 0) := (oX.cell (by show w.heap.size + 1 < _; omega) (by show w.heap.size + 1 ≠ _; omega)).trans v2
    have v3 : x9.cell? ⟨w.heap.size + 1, 3, none⟩ = some (.int .i64 0) := (oX.cell (by show w.heap.size + 1 < _; omega) (by show w.heap.size + 1 ≠ _; omega)).trans v3
    have v4 : x9.cell? ⟨w.heap.size + 1, 4, none⟩ = some (.int .i64 0) := (oX.cell (by show w.heap.size + 1 < _; omega) (by show w.heap.size + 1 ≠ _; omega)).trans v4
    have v5 : x9.cell? ⟨w.heap.size + 1, 5, none⟩ = some (.slice none 0 0) := (oX.cell (by show w.heap.size + 1 < _; omega) (by show w.heap.size + 1 ≠ _; omega)).trans v5
    have v6 : x9.cell? ⟨w.heap.size + 1, 6, none⟩ = some (.int .i64 0) := (oX.cell (by show w.heap.size + 1 < _; omega) (by show w.heap.size + 1 ≠ _; omega)).trans v6
    have v7 : x9.cell? ⟨w.heap.size + 1, 7, none⟩ = some (.int .i64 0) := (oX.cell (by show w.heap.size + 1 < _; omega) (by show w.heap.size + 1 ≠ _; omega)).trans v7
    have vz : ∀ o : Nat, x9.frozen? ⟨w.heap.size + 1, o, none⟩ = false := fun o => (oX.frozen (by show w.heap.size + 1 < _; omega) (by show w.heap.size + 1 ≠ _; omega)).trans (vz o)
    have sz : ∀ o : Nat, x9.frozen? ⟨w.heap.size, o, none⟩ = false := fun o => by rw [hx9]; simpa using sz o
    have hbw : Below w.heap.size w x9 := hbw.trans (oX.below (Nat.le_refl _) (by omega))
    have zl : w.heap.size + 1 + 1 ≤ x9.heap.size := Nat.le_trans zl oX.size
    clear hx9 oX
    go_wp2
    obtain ⟨y, ey, cs, far, fz, zy, hbel, hon⟩ := over8 (.int .i64 1) (.int .i64 cy) (.int .i64 sn) (.int .i64 tp) (.int .i64 m3) (.slice a xs.length cap) (.int .i64 mt) (.int .i64 ta) (w := x9) (g := w.heap.size + 1) v0 v1 v2 v3 v4 v5 v6 v7
    rw [← ey]
    refine bodyPost_ret (results_one rfl _ _ _ [.int .i64 1, .int .i64 cy, .int .i64 sn, .int .i64 tp, .int .i64 m3, .slice a xs.length cap, .int .i64 mt, .int .i64 ta] rfl cs Try.underlying53 rfl (by kernel_rfl)) rfl ?_
    exact ⟨rfl, hbw.trans (hbel _ (by omega))⟩
set_option maxHeartbeats 4000000 in
theorem drained_is {cy sn tp sv mt ta now flight be sa3 cy3 sn3 : Int} {w : World} {a : Option Addr} (cap : Nat) {xs : List (Int × Int)} (HBE : Hid (bestOf xs = be)) (hC : obC now be flight (⟨2, cy, sn, tp, sv, mt, ta⟩ : Pb) = (⟨sa3, cy3, sn3, tp, sv, mt, ta⟩ : Pb)) (smp : Smp w.heap.size w a xs) : Calls Try.prog 127 #[.agg #[.int .i64 2, .int .i64 cy, .int .i64 sn, .int .i64 tp, .int .i64 sv, .slice a xs.length cap, .int .i64 mt, .int .i64 ta], .int .i64 now, .int .i64 flight] w fun e w' => e = .returned (.agg #[.int .i64 sa3, .int .i64 cy3, .int .i64 sn3, .int .i64 tp, .int .i64 sv, .slice a xs.length cap, .int .i64 mt, .int .i64 ta]) ∧ Below w.heap.size w w' := by
  obtain ⟨yb, hyb⟩ : ∃ y, bytesOf be mt = y := ⟨_, rfl⟩
  have HY : Hid (bytesOf (bestOf xs) mt = yb) := (congrArg (fun z => bytesOf z mt) HBE.out).trans hyb
  by_cases k1 : flight ≤ yb
  · unfold obC at hC
    rw [hyb, if_pos ⟨rfl, k1⟩] at hC
    injection hC with q1 q2 q3
    have q1 : (3 : Int) = sa3 := q1
    have q2 : (0 : Int) = cy3 := q2
    have q3 : (now : Int) = sn3 := q3
    subst q1 q2 q3
    clear hyb
    go_enter Try.func127, Try.ntmps127
    go_wp2_with (first
      | (go_at_call 99; refine (carried_any cap (smp.here (by go_grown))).mono ?_; rintro e w3 ⟨rfl, hbw3⟩; rw [HY.out]; have hbw : Below w.heap.size w w3 := below_two (by go_grown) hbw3; have kc := below_cells4 hbw3; have kf := below_frozens4 hbw3; have zl := hbw3.size; (try simp at zl); have s0 : w3.cell? ⟨w.heap.size, 0, none⟩ = some (.int .i64 2) := (kc _ _ (by simp; try omega)).trans (by go_simp); have s1 : w3.cell? ⟨w.heap.size, 1, none⟩ = some (.int .i64 cy) := (kc _ _ (by simp; try omega)).trans (by go_simp); have s2 : w3.cell? ⟨w.heap.size, 2, none⟩ = some (.int .i64 sn) := (kc _ _ (by simp; try omega)).trans (by go_simp); have s3 : w3.cell? ⟨w.heap.size, 3, none⟩ = some (.int .i64 tp) := (kc _ _ (by simp; try omega)).trans (by go_simp); have s4 : w3.cell? ⟨w.heap.size, 4, none⟩ = some (.int .i64 sv) := (kc _ _ (by simp; try omega)).trans (by go_simp); have s5 : w3.cell? ⟨w.heap.size, 5, none⟩ = some (.slice a xs.length cap) := (kc _ _ (by simp; try omega)).trans (by go_simp); have s6 : w3.cell? ⟨w.heap.size, 6, none⟩ = some (.int .i64 mt) := (kc _ _ (by simp; try omega)).trans (by go_simp); have s7 : w3.cell? ⟨w.heap.size, 7, none⟩ = some (.int .i64 ta) := (kc _ _ (by simp; try omega)).trans (by go_simp); have v0 : w3.cell? ⟨w.heap.size + 1, 0, none⟩ = some (.int .i64 0) := (kc _ _ (by simp; try omega)).trans (by go_simp); have v1 : w3.cell? ⟨w.heap.size + 1, 1, none⟩ = some (.int .i64 0) := (kc _ _ (by simp; try omega)).trans (by go_simp); have v2 : w3.cell? ⟨w.heap.size + 1, 2, none⟩ = some (.int .i64 0) := (kc _ _ (by simp; try omega)).trans (by go_simp); have v3 : w3.cell? ⟨w.heap.size + 1, 3, none⟩ = some (.int .i64 0) := (kc _ _ (by simp; try omega)).trans (by go_simp); have v4 : w3.cell? ⟨w.heap.size + 1, 4, none⟩ = some (.int .i64 0) := (kc _ _ (by simp; try omega)).trans (by go_simp); have v5 : w3.cell? ⟨w.heap.size + 1, 5, none⟩ = some (.slice none 0 0) := (kc _ _ (by simp; try omega)).trans (by go_simp); have v6 : w3.cell? ⟨w.heap.size + 1, 6, none⟩ = some (.int .i64 0) := (kc _ _ (by simp; try omega)).trans (by go_simp); have v7 : w3.cell? ⟨w.heap.size + 1, 7, none⟩ = some (.int .i64 0) := (kc _ _ (by simp; try omega)).trans (by go_simp); have sz : ∀ o : Nat, w3.frozen? ⟨w.heap.size, o, none⟩ = false := (fun o => (kf _ _ (by simp; try omega)).trans (by go_simp)); have vz : ∀ o : Nat, w3.frozen? ⟨w.heap.size + 1, o, none⟩ = false := (fun o => (kf _ _ (by simp; try omega)).trans (by go_simp)); clear kc kf)
      | (go_at_call 129; refine (cruising_any).mono ?_; rintro e w4 ⟨rfl, hbw4⟩; have hbw : Below w.heap.size w w4 := below_two hbw hbw4; have s0 := (hbw4.cell (p := ⟨w.heap.size, 0, none⟩) (by show w.heap.size < _; omega)).trans s0; have s1 := (hbw4.cell (p := ⟨w.heap.size, 1, none⟩) (by show w.heap.size < _; omega)).trans s1; have s2 := (hbw4.cell (p := ⟨w.heap.size, 2, none⟩) (by show w.heap.size < _; omega)).trans s2; have s3 := (hbw4.cell (p := ⟨w.heap.size, 3, none⟩) (by show w.heap.size < _; omega)).trans s3; have s4 := (hbw4.cell (p := ⟨w.heap.size, 4, none⟩) (by show w.heap.size < _; omega)).trans s4; have s5 := (hbw4.cell (p := ⟨w.heap.size, 5, none⟩) (by show w.heap.size < _; omega)).trans s5; have s6 := (hbw4.cell (p := ⟨w.heap.size, 6, none⟩) (by show w.heap.size < _; omega)).trans s6; have s7 := (hbw4.cell (p := ⟨w.heap.size, 7, none⟩) (by show w.heap.size < _; omega)).trans s7; have v0 := (hbw4.cell (p := ⟨w.heap.size + 1, 0, none⟩) (by show w.heap.size + 1 < _; omega)).trans v0; have v1 := (hbw4.cell (p := ⟨w.heap.size + 1, 1, none⟩) (by show w.heap.size + 1 < _; omega)).trans v1; have v2 := (hbw4.cell (p := ⟨w.heap.size + 1, 2, none⟩) (by show w.heap.size + 1 < _; omega)).trans v2; have v3 := (hbw4.cell (p := ⟨w.heap.size + 1, 3, none⟩) (by show w.heap.size + 1 < _; omega)).trans v3; have v4 := (hbw4.cell (p := ⟨w.heap.size + 1, 4, none⟩) (by show w.heap.size + 1 < _; omega)).trans v4; have v5 := (hbw4.cell (p := ⟨w.heap.size + 1, 5, none⟩) (by show w.heap.size + 1 < _; omega)).trans v5; have v6 := (hbw4.cell (p := ⟨w.heap.size + 1, 6, none⟩) (by show w.heap.size + 1 < _; omega)).trans v6; have v7 := (hbw4.cell (p := ⟨w.heap.size + 1, 7, none⟩) (by show w.heap.size + 1 < _; omega)).trans v7; have vz : ∀ o : Nat, w4.frozen? ⟨w.heap.size + 1, o, none⟩ = false := fun o => (hbw4.frozen (p := ⟨w.heap.size + 1, o, none⟩) (by show w.heap.size + 1 < _; omega)).trans (vz o); have sz : ∀ o : Nat, w4.frozen? ⟨w.heap.size, o, none⟩ = false := fun o => (hbw4.frozen (p := ⟨w.heap.size, o, none⟩) (by show w.heap.size < _; omega)).trans (sz o); have zl : w.heap.size + 1 + 1 ≤ w4.heap.size := Nat.le_trans zl hbw4.size))
    obtain ⟨y, ey, cs, far, fz, zy, hbel, hon⟩ := over8 (.int .i64 3) (.int .i64 0) (.int .i64 now) (.int .i64 tp) (.int .i64 sv) (.slice a xs.length cap) (.int .i64 mt) (.int .i64 ta) (w := w4) (g := w.heap.size + 1) v0 v1 v2 v3 v4 v5 v6 v7
    rw [← ey]
    refine bodyPost_ret (results_one rfl _ _ _ [.int .i64 3, .int .i64 0, .int .i64 now, .int .i64 tp, .int .i64 sv, .slice a xs.length cap, .int .i64 mt, .int .i64 ta] rfl cs Try.underlying53 rfl (by kernel_rfl)) rfl ?_
    exact ⟨rfl, hbw.trans (hbel _ (by omega))⟩
  · unfold obC at hC
    rw [hyb, if_neg (fun h => k1 h.2)] at hC
    injection hC with q1 q2 q3
    have q1 : (2 : Int) = sa3 := q1
    have q2 : (cy : Int) = cy3 := q2
    have q3 : (sn : Int) = sn3 := q3
    subst q1 q2 q3
    clear hyb
    go_enter Try.func127, Try.ntmps127
    go_wp2_with (first
      | (go_at_call 99; refine (carried_any cap (smp.here (by go_grown))).mono ?_; rintro e w3 ⟨rfl, hbw3⟩; rw [HY.out]; have hbw : Below w.heap.size w w3 := below_two (by go_grown) hbw3; have kc := below_cells4 hbw3; have kf := below_frozens4 hbw3; have zl := hbw3.size; (try simp at zl); have s0 : w3.cell? ⟨w.heap.size, 0, none⟩ = some (.int .i64 2) := (kc _ _ (by simp; try omega)).trans (by go_simp); have s1 : w3.cell? ⟨w.heap.size, 1, none⟩ = some (.int .i64 cy) := (kc _ _ (by simp; try omega)).trans (by go_simp); have s2 : w3.cell? ⟨w.heap.size, 2, none⟩ = some (.int .i64 sn) := (kc _ _ (by simp; try omega)).trans (by go_simp); have s3 : w3.cell? ⟨w.heap.size, 3, none⟩ = some (.int .i64 tp) := (kc _ _ (by simp; try omega)).trans (by go_simp); have s4 : w3.cell? ⟨w.heap.size, 4, none⟩ = some (.int .i64 sv) := (kc _ _ (by simp; try omega)).trans (by go_simp); have s5 : w3.cell? ⟨w.heap.size, 5, none⟩ = some (.slice a xs.length cap) := (kc _ _ (by simp; try omega)).trans (by go_simp); have s6 : w3.cell? ⟨w.heap.size, 6, none⟩ = some (.int .i64 mt) := (kc _ _ (by simp; try omega)).trans (by go_simp); have s7 : w3.cell? ⟨w.heap.size, 7, none⟩ = some (.int .i64 ta) := (kc _ _ (by simp; try omega)).trans (by go_simp); have v0 : w3.cell? ⟨w.heap.size + 1, 0, none⟩ = some (.int .i64 0) := (kc _ _ (by simp; try omega)).trans (by go_simp); have v1 : w3.cell? ⟨w.heap.size + 1, 1, none⟩ = some (.int .i64 0) := (kc _ _ (by simp; try omega)).trans (by go_simp); have v2 : w3.cell? ⟨w.heap.size + 1, 2, none⟩ = some (.int .i64 0) := (kc _ _ (by simp; try omega)).trans (by go_simp); have v3 : w3.cell? ⟨w.heap.size + 1, 3, none⟩ = some (.int .i64 0) := (kc _ _ (by simp; try omega)).trans (by go_simp); have v4 : w3.cell? ⟨w.heap.size + 1, 4, none⟩ = some (.int .i64 0) := (kc _ _ (by simp; try omega)).trans (by go_simp); have v5 : w3.cell? ⟨w.heap.size + 1, 5, none⟩ = some (.slice none 0 0) := (kc _ _ (by simp; try omega)).trans (by go_simp); have v6 : w3.cell? ⟨w.heap.size + 1, 6, none⟩ = some (.int .i64 0) := (kc _ _ (by simp; try omega)).trans (by go_simp); have v7 : w3.cell? ⟨w.heap.size + 1, 7, none⟩ = some (.int .i64 0) := (kc _ _ (by simp; try omega)).trans (by go_simp); have sz : ∀ o : Nat, w3.frozen? ⟨w.heap.size, o, none⟩ = false := (fun o => (kf _ _ (by simp; try omega)).trans (by go_simp)); have vz : ∀ o : Nat, w3.frozen? ⟨w.heap.size + 1, o, none⟩ = false := (fun o => (kf _ _ (by simp; try omega)).trans (by go_simp)); clear kc kf))
    obtain ⟨y, ey, cs, far, fz, zy, hbel, hon⟩ := over8 (.int .i64 2) (.int .i64 cy) (.int .i64 sn) (.int .i64 tp) (.int .i64 sv) (.slice a xs.length cap) (.int .i64 mt) (.int .i64 ta) (w := w3) (g := w.heap.size + 1) v0 v1 v2 v3 v4 v5 v6 v7
    rw [← ey]
    refine bodyPost_ret (results_one rfl _ _ _ [.int .i64 2, .int .i64 cy, .int .i64 sn, .int .i64 tp, .int .i64 sv, .slice a xs.length cap, .int .i64 mt, .int .i64 ta] rfl cs Try.underlying53 rfl (by kernel_rfl)) rfl ?_
    exact ⟨rfl, hbw.trans (hbel _ (by omega))⟩
set_option maxHeartbeats 4000000 in
theorem cycled_is {cy sn tp sv mt ta now cy4 sn4 : Int} {w : World} {a : Option Addr} {n cap : Nat} (r : IntKind.i64.wrap (now - sn) = now - sn) (hcy : 0 ≤ cy ∧ cy ≤ 7) (hD : obD 3 now (⟨3, cy, sn, tp, sv, mt, ta⟩ : Pb) = (⟨3, cy4, sn4, tp, sv, mt, ta⟩ : Pb)) : Calls Try.prog 128 #[.agg #[.int .i64 3, .int .i64 cy, .int .i64 sn, .int .i64 tp, .int .i64 sv, .slice a n cap, .int .i64 mt, .int .i64 ta], .int .i64 now] w fun e w' => e = .returned (.agg #[.int .i64 3, .int .i64 cy4, .int .i64 sn4, .int .i64 tp, .int .i64 sv, .slice a n cap, .int .i64 mt, .int .i64 ta]) ∧ Below w.heap.size w w' := by
  have e7 : IntKind.i64.wrap (cy + 1) = cy + 1 := by rw [IntKind.wrap_i64]; omega
  have e8 : (cy + 1).tmod 8 = (cy + 1) % 8 := Int.tmod_eq_emod_of_nonneg (by omega)
  have e9 : IntKind.i64.wrap ((cy + 1) % 8) = (cy + 1) % 8 := by rw [IntKind.wrap_i64]; omega
  by_cases k1 : mt ≤ now - sn
  · unfold obD at hD
    rw [if_pos ⟨rfl, k1⟩] at hD
    injection hD with _ q2 q3
    have q2 : (cy + 1) % 8 = cy4 := q2
    have q3 : now = sn4 := q3
    subst q2 q3
    go_enter Try.func128, Try.ntmps128
    go_wp2
    refine bodyPost_ret (results_one rfl _ _ _ [.int .i64 3, .int .i64 ((cy + 1) % 8), .int .i64 now, .int .i64 tp, .int .i64 sv, .slice a n cap, .int .i64 mt, .int .i64 ta] rfl (cells_eight (by go_simp) (by go_simp) (by go_simp) (by go_simp) (by go_simp) (by go_simp) (by go_simp) (by go_simp)) Try.underlying53 rfl (by kernel_rfl)) rfl ?_
    exact ⟨rfl, by go_grown⟩
  · unfold obD at hD
    rw [if_neg (fun h => k1 h.2)] at hD
    injection hD with _ q2 q3
    have q2 : cy = cy4 := q2
    have q3 : sn = sn4 := q3
    subst q2 q3
    go_enter Try.func128, Try.ntmps128
    go_wp2
    refine bodyPost_ret (results_one rfl _ _ _ [.int .i64 3, .int .i64 (cy), .int .i64 sn, .int .i64 tp, .int .i64 sv, .slice a n cap, .int .i64 mt, .int .i64 ta] rfl (cells_eight (by go_simp) (by go_simp) (by go_simp) (by go_simp) (by go_simp) (by go_simp) (by go_simp) (by go_simp)) Try.underlying53 rfl (by kernel_rfl)) rfl ?_
    exact ⟨rfl, by go_grown⟩
end Go.Proofs.Ytiibafphgjlffae

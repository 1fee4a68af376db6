/- What impl.Observe answers. -/
import Derived.Test.YtiibafphgjlffaeImplPbMoved
import Derived.Test.YtiibafphgjlffaeSpecObs
namespace Go.Proofs.Ytiibafphgjlffae
open Go.ChangeShapes Go.WideShapes Go.ChangeAt Go.RowKit
set_option maxRecDepth 100000
set_option linter.unusedVariables false
set_option linter.unusedSimpArgs false

set_option maxHeartbeats 4000000 in
theorem implObserve_no0 {sa cy sn tp sv mt ta now rate trip flight : Int} {w : World} {a : Option Addr} (cap : Nat) {xs : List (Int × Int)} (hp : pokB sa cy sn tp sv mt ta xs = false) (smp : Smp w.heap.size w a xs) : Calls Try.prog 42 #[.agg #[.int .i64 sa, .int .i64 cy, .int .i64 sn, .int .i64 tp, .int .i64 sv, .slice a xs.length cap, .int .i64 mt, .int .i64 ta], .int .i64 now, .int .i64 rate, .int .i64 trip, .int .i64 flight] w fun e w' => e = .returned (.agg #[.int .i64 0, .int .i64 0, .int .i64 0, .int .i64 0, .int .i64 0, .slice none 0 0, .int .i64 0, .int .i64 0]) ∧ Below w.heap.size w w' := by
  go_enter Try.func42, Try.ntmps42
  go_wp2_with (first
    | (go_at_call 52; refine (implProbeOk_is cap hp (smp.here (by go_grown))).mono ?_; rintro e w3 ⟨rfl, hbw3⟩; have hbw : Below w.heap.size w w3 := below_two (by go_grown) hbw3; have kc := below_cells4 hbw3; have kf := below_frozens4 hbw3; have zl := hbw3.size; (try simp at zl); have s0 : w3.cell? ⟨w.heap.size, 0, none⟩ = some (.int .i64 sa) := (kc _ _ (by simp; try omega)).trans (by go_simp); have s1 : w3.cell? ⟨w.heap.size, 1, none⟩ = some (.int .i64 cy) := (kc _ _ (by simp; try omega)).trans (by go_simp); have s2 : w3.cell? ⟨w.heap.size, 2, none⟩ = some (.int .i64 sn) := (kc _ _ (by simp; try omega)).trans (by go_simp); have s3 : w3.cell? ⟨w.heap.size, 3, none⟩ = some (.int .i64 tp) := (kc _ _ (by simp; try omega)).trans (by go_simp); have s4 : w3.cell? ⟨w.heap.size, 4, none⟩ = some (.int .i64 sv) := (kc _ _ (by simp; try omega)).trans (by go_simp); have s5 : w3.cell? ⟨w.heap.size, 5, none⟩ = some (.slice a xs.length cap) := (kc _ _ (by simp; try omega)).trans (by go_simp); have s6 : w3.cell? ⟨w.heap.size, 6, none⟩ = some (.int .i64 mt) := (kc _ _ (by simp; try omega)).trans (by go_simp); have s7 : w3.cell? ⟨w.heap.size, 7, none⟩ = some (.int .i64 ta) := (kc _ _ (by simp; try omega)).trans (by go_simp); have v0 : w3.cell? ⟨w.heap.size + 1, 0, none⟩ = some (.int .i64 0) := (kc _ _ (by simp; try omega)).trans (by go_simp); have v1 : w3.cell? ⟨w.heap.size + 1, 1, none⟩ = some (.int .i64 0) := (kc _ _ (by simp; try omega)).trans (by go_simp); have v2 : w3.cell? ⟨w.heap.size + 1, 2, none⟩ = some (.int .i64 0) := (kc _ _ (by simp; try omega)).trans (by go_simp); have v3 : w3.cell? ⟨w.heap.size + 1, 3, none⟩ = some (.int .i64 0) := (kc _ _ (by simp; try omega)).trans (by go_simp); have v4 : w3.cell? ⟨w.heap.size + 1, 4, none⟩ = some (.int .i64 0) := (kc _ _ (by simp; try omega)).trans (by go_simp); have v5 : w3.cell? ⟨w.heap.size + 1, 5, none⟩ = some (.slice none 0 0) := (kc _ _ (by simp; try omega)).trans (by go_simp); have v6 : w3.cell? ⟨w.heap.size + 1, 6, none⟩ = some (.int .i64 0) := (kc _ _ (by simp; try omega)).trans (by go_simp); have v7 : w3.cell? ⟨w.heap.size + 1, 7, none⟩ = some (.int .i64 0) := (kc _ _ (by simp; try omega)).trans (by go_simp); have sz : ∀ o : Nat, w3.frozen? ⟨w.heap.size, o, none⟩ = false := (fun o => (kf _ _ (by simp; try omega)).trans (by go_simp)); have vz : ∀ o : Nat, w3.frozen? ⟨w.heap.size + 1, o, none⟩ = false := (fun o => (kf _ _ (by simp; try omega)).trans (by go_simp)); clear kc kf))
  obtain ⟨y, ey, cs, far, fz, zy, hbel, hon⟩ := over8 (.int .i64 0) (.int .i64 0) (.int .i64 0) (.int .i64 0) (.int .i64 0) (.slice none 0 0) (.int .i64 0) (.int .i64 0) (g := w.heap.size + 1) v0 v1 v2 v3 v4 v5 v6 v7
  rw [← ey]
  refine bodyPost_ret (results_one rfl _ _ _ [.int .i64 0, .int .i64 0, .int .i64 0, .int .i64 0, .int .i64 0, .slice none 0 0, .int .i64 0, .int .i64 0] rfl cs Try.underlying53 rfl (by kernel_rfl)) rfl ?_
  exact ⟨rfl, hbw.trans (hbel _ (by omega))⟩
set_option maxHeartbeats 4000000 in
theorem implObserve_no1 {sa cy sn tp sv mt ta now rate trip flight : Int} {w : World} {a : Option Addr} (cap : Nat) {xs : List (Int × Int)} (hp : pokB sa cy sn tp sv mt ta xs = true) (h1 : now < sn) (smp : Smp w.heap.size w a xs) : Calls Try.prog 42 #[.agg #[.int .i64 sa, .int .i64 cy, .int .i64 sn, .int .i64 tp, .int .i64 sv, .slice a xs.length cap, .int .i64 mt, .int .i64 ta], .int .i64 now, .int .i64 rate, .int .i64 trip, .int .i64 flight] w fun e w' => e = .returned (.agg #[.int .i64 0, .int .i64 0, .int .i64 0, .int .i64 0, .int .i64 0, .slice none 0 0, .int .i64 0, .int .i64 0]) ∧ Below w.heap.size w w' := by
  go_enter Try.func42, Try.ntmps42
  go_wp2_with (first
    | (go_at_call 52; refine (implProbeOk_is cap hp (smp.here (by go_grown))).mono ?_; rintro e w3 ⟨rfl, hbw3⟩; have hbw : Below w.heap.size w w3 := below_two (by go_grown) hbw3; have kc := below_cells4 hbw3; have kf := below_frozens4 hbw3; have zl := hbw3.size; (try simp at zl); have s0 : w3.cell? ⟨w.heap.size, 0, none⟩ = some (.int .i64 sa) := (kc _ _ (by simp; try omega)).trans (by go_simp); have s1 : w3.cell? ⟨w.heap.size, 1, none⟩ = some (.int .i64 cy) := (kc _ _ (by simp; try omega)).trans (by go_simp); have s2 : w3.cell? ⟨w.heap.size, 2, none⟩ = some (.int .i64 sn) := (kc _ _ (by simp; try omega)).trans (by go_simp); have s3 : w3.cell? ⟨w.heap.size, 3, none⟩ = some (.int .i64 tp) := (kc _ _ (by simp; try omega)).trans (by go_simp); have s4 : w3.cell? ⟨w.heap.size, 4, none⟩ = some (.int .i64 sv) := (kc _ _ (by simp; try omega)).trans (by go_simp); have s5 : w3.cell? ⟨w.heap.size, 5, none⟩ = some (.slice a xs.length cap) := (kc _ _ (by simp; try omega)).trans (by go_simp); have s6 : w3.cell? ⟨w.heap.size, 6, none⟩ = some (.int .i64 mt) := (kc _ _ (by simp; try omega)).trans (by go_simp); have s7 : w3.cell? ⟨w.heap.size, 7, none⟩ = some (.int .i64 ta) := (kc _ _ (by simp; try omega)).trans (by go_simp); have v0 : w3.cell? ⟨w.heap.size + 1, 0, none⟩ = some (.int .i64 0) := (kc _ _ (by simp; try omega)).trans (by go_simp); have v1 : w3.cell? ⟨w.heap.size + 1, 1, none⟩ = some (.int .i64 0) := (kc _ _ (by simp; try omega)).trans (by go_simp); have v2 : w3.cell? ⟨w.heap.size + 1, 2, none⟩ = some (.int .i64 0) := (kc _ _ (by simp; try omega)).trans (by go_simp); have v3 : w3.cell? ⟨w.heap.size + 1, 3, none⟩ = some (.int .i64 0) := (kc _ _ (by simp; try omega)).trans (by go_simp); have v4 : w3.cell? ⟨w.heap.size + 1, 4, none⟩ = some (.int .i64 0) := (kc _ _ (by simp; try omega)).trans (by go_simp); have v5 : w3.cell? ⟨w.heap.size + 1, 5, none⟩ = some (.slice none 0 0) := (kc _ _ (by simp; try omega)).trans (by go_simp); have v6 : w3.cell? ⟨w.heap.size + 1, 6, none⟩ = some (.int .i64 0) := (kc _ _ (by simp; try omega)).trans (by go_simp); have v7 : w3.cell? ⟨w.heap.size + 1, 7, none⟩ = some (.int .i64 0) := (kc _ _ (by simp; try omega)).trans (by go_simp); have sz : ∀ o : Nat, w3.frozen? ⟨w.heap.size, o, none⟩ = false := (fun o => (kf _ _ (by simp; try omega)).trans (by go_simp)); have vz : ∀ o : Nat, w3.frozen? ⟨w.heap.size + 1, o, none⟩ = false := (fun o => (kf _ _ (by simp; try omega)).trans (by go_simp)); clear kc kf))
  obtain ⟨y, ey, cs, far, fz, zy, hbel, hon⟩ := over8 (.int .i64 0) (.int .i64 0) (.int .i64 0) (.int .i64 0) (.int .i64 0) (.slice none 0 0) (.int .i64 0) (.int .i64 0) (g := w.heap.size + 1) v0 v1 v2 v3 v4 v5 v6 v7
  rw [← ey]
  refine bodyPost_ret (results_one rfl _ _ _ [.int .i64 0, .int .i64 0, .int .i64 0, .int .i64 0, .int .i64 0, .slice none 0 0, .int .i64 0, .int .i64 0] rfl cs Try.underlying53 rfl (by kernel_rfl)) rfl ?_
  exact ⟨rfl, hbw.trans (hbel _ (by omega))⟩
set_option maxHeartbeats 4000000 in
theorem implObserve_no2 {sa cy sn tp sv mt ta now rate trip flight : Int} {w : World} {a : Option Addr} (cap : Nat) {xs : List (Int × Int)} (hp : pokB sa cy sn tp sv mt ta xs = true) (h1 : ¬ now < sn) (h2 : now < ta) (smp : Smp w.heap.size w a xs) : Calls Try.prog 42 #[.agg #[.int .i64 sa, .int .i64 cy, .int .i64 sn, .int .i64 tp, .int .i64 sv, .slice a xs.length cap, .int .i64 mt, .int .i64 ta], .int .i64 now, .int .i64 rate, .int .i64 trip, .int .i64 flight] w fun e w' => e = .returned (.agg #[.int .i64 0, .int .i64 0, .int .i64 0, .int .i64 0, .int .i64 0, .slice none 0 0, .int .i64 0, .int .i64 0]) ∧ Below w.heap.size w w' := by
  go_enter Try.func42, Try.ntmps42
  go_wp2_with (first
    | (go_at_call 52; refine (implProbeOk_is cap hp (smp.here (by go_grown))).mono ?_; rintro e w3 ⟨rfl, hbw3⟩; have hbw : Below w.heap.size w w3 := below_two (by go_grown) hbw3; have kc := below_cells4 hbw3; have kf := below_frozens4 hbw3; have zl := hbw3.size; (try simp at zl); have s0 : w3.cell? ⟨w.heap.size, 0, none⟩ = some (.int .i64 sa) := (kc _ _ (by simp; try omega)).trans (by go_simp); have s1 : w3.cell? ⟨w.heap.size, 1, none⟩ = some (.int .i64 cy) := (kc _ _ (by simp; try omega)).trans (by go_simp); have s2 : w3.cell? ⟨w.heap.size, 2, none⟩ = some (.int .i64 sn) := (kc _ _ (by simp; try omega)).trans (by go_simp); have s3 : w3.cell? ⟨w.heap.size, 3, none⟩ = some (.int .i64 tp) := (kc _ _ (by simp; try omega)).trans (by go_simp); have s4 : w3.cell? ⟨w.heap.size, 4, none⟩ = some (.int .i64 sv) := (kc _ _ (by simp; try omega)).trans (by go_simp); have s5 : w3.cell? ⟨w.heap.size, 5, none⟩ = some (.slice a xs.length cap) := (kc _ _ (by simp; try omega)).trans (by go_simp); have s6 : w3.cell? ⟨w.heap.size, 6, none⟩ = some (.int .i64 mt) := (kc _ _ (by simp; try omega)).trans (by go_simp); have s7 : w3.cell? ⟨w.heap.size, 7, none⟩ = some (.int .i64 ta) := (kc _ _ (by simp; try omega)).trans (by go_simp); have v0 : w3.cell? ⟨w.heap.size + 1, 0, none⟩ = some (.int .i64 0) := (kc _ _ (by simp; try omega)).trans (by go_simp); have v1 : w3.cell? ⟨w.heap.size + 1, 1, none⟩ = some (.int .i64 0) := (kc _ _ (by simp; try omega)).trans (by go_simp); have v2 : w3.cell? ⟨w.heap.size + 1, 2, none⟩ = some (.int .i64 0) := (kc _ _ (by simp; try omega)).trans (by go_simp); have v3 : w3.cell? ⟨w.heap.size + 1, 3, none⟩ = some (.int .i64 0) := (kc _ _ (by simp; try omega)).trans (by go_simp); have v4 : w3.cell? ⟨w.heap.size + 1, 4, none⟩ = some (.int .i64 0) := (kc _ _ (by simp; try omega)).trans (by go_simp); have v5 : w3.cell? ⟨w.heap.size + 1, 5, none⟩ = some (.slice none 0 0) := (kc _ _ (by simp; try omega)).trans (by go_simp); have v6 : w3.cell? ⟨w.heap.size + 1, 6, none⟩ = some (.int .i64 0) := (kc _ _ (by simp; try omega)).trans (by go_simp); have v7 : w3.cell? ⟨w.heap.size + 1, 7, none⟩ = some (.int .i64 0) := (kc _ _ (by simp; try omega)).trans (by go_simp); have sz : ∀ o : Nat, w3.frozen? ⟨w.heap.size, o, none⟩ = false := (fun o => (kf _ _ (by simp; try omega)).trans (by go_simp)); have vz : ∀ o : Nat, w3.frozen? ⟨w.heap.size + 1, o, none⟩ = false := (fun o => (kf _ _ (by simp; try omega)).trans (by go_simp)); clear kc kf))
  obtain ⟨y, ey, cs, far, fz, zy, hbel, hon⟩ := over8 (.int .i64 0) (.int .i64 0) (.int .i64 0) (.int .i64 0) (.int .i64 0) (.slice none 0 0) (.int .i64 0) (.int .i64 0) (g := w.heap.size + 1) v0 v1 v2 v3 v4 v5 v6 v7
  rw [← ey]
  refine bodyPost_ret (results_one rfl _ _ _ [.int .i64 0, .int .i64 0, .int .i64 0, .int .i64 0, .int .i64 0, .slice none 0 0, .int .i64 0, .int .i64 0] rfl cs Try.underlying53 rfl (by kernel_rfl)) rfl ?_
  exact ⟨rfl, hbw.trans (hbel _ (by omega))⟩
set_option maxHeartbeats 4000000 in
theorem implObserve_no3 {sa cy sn tp sv mt ta now rate trip flight : Int} {w : World} {a : Option Addr} (cap : Nat) {xs : List (Int × Int)} (hp : pokB sa cy sn tp sv mt ta xs = true) (h1 : ¬ now < sn) (h2 : ¬ now < ta) (ht : inP 1 trip 1000000000000000 = false) (smp : Smp w.heap.size w a xs) : Calls Try.prog 42 #[.agg #[.int .i64 sa, .int .i64 cy, .int .i64 sn, .int .i64 tp, .int .i64 sv, .slice a xs.length cap, .int .i64 mt, .int .i64 ta], .int .i64 now, .int .i64 rate, .int .i64 trip, .int .i64 flight] w fun e w' => e = .returned (.agg #[.int .i64 0, .int .i64 0, .int .i64 0, .int .i64 0, .int .i64 0, .slice none 0 0, .int .i64 0, .int .i64 0]) ∧ Below w.heap.size w w' := by
  go_enter Try.func42, Try.ntmps42
  go_wp2_with (first
    | (go_at_call 52; refine (implProbeOk_is cap hp (smp.here (by go_grown))).mono ?_; rintro e w3 ⟨rfl, hbw3⟩; have hbw : Below w.heap.size w w3 := below_two (by go_grown) hbw3; have kc := below_cells4 hbw3; have kf := below_frozens4 hbw3; have zl := hbw3.size; (try simp at zl); have s0 : w3.cell? ⟨w.heap.size, 0, none⟩ = some (.int .i64 sa) := (kc _ _ (by simp; try omega)).trans (by go_simp); have s1 : w3.cell? ⟨w.heap.size, 1, none⟩ = some (.int .i64 cy) := (kc _ _ (by simp; try omega)).trans (by go_simp); have s2 : w3.cell? ⟨w.heap.size, 2, none⟩ = some (.int .i64 sn) := (kc _ _ (by simp; try omega)).trans (by go_simp); have s3 : w3.cell? ⟨w.heap.size, 3, none⟩ = some (.int .i64 tp) := (kc _ _ (by simp; try omega)).trans (by go_simp); have s4 : w3.cell? ⟨w.heap.size, 4, none⟩ = some (.int .i64 sv) := (kc _ _ (by simp; try omega)).trans (by go_simp); have s5 : w3.cell? ⟨w.heap.size, 5, none⟩ = some (.slice a xs.length cap) := (kc _ _ (by simp; try omega)).trans (by go_simp); have s6 : w3.cell? ⟨w.heap.size, 6, none⟩ = some (.int .i64 mt) := (kc _ _ (by simp; try omega)).trans (by go_simp); have s7 : w3.cell? ⟨w.heap.size, 7, none⟩ = some (.int .i64 ta) := (kc _ _ (by simp; try omega)).trans (by go_simp); have v0 : w3.cell? ⟨w.heap.size + 1, 0, none⟩ = some (.int .i64 0) := (kc _ _ (by simp; try omega)).trans (by go_simp); have v1 : w3.cell? ⟨w.heap.size + 1, 1, none⟩ = some (.int .i64 0) := (kc _ _ (by simp; try omega)).trans (by go_simp); have v2 : w3.cell? ⟨w.heap.size + 1, 2, none⟩ = some (.int .i64 0) := (kc _ _ (by simp; try omega)).trans (by go_simp); have v3 : w3.cell? ⟨w.heap.size + 1, 3, none⟩ = some (.int .i64 0) := (kc _ _ (by simp; try omega)).trans (by go_simp); have v4 : w3.cell? ⟨w.heap.size + 1, 4, none⟩ = some (.int .i64 0) := (kc _ _ (by simp; try omega)).trans (by go_simp); have v5 : w3.cell? ⟨w.heap.size + 1, 5, none⟩ = some (.slice none 0 0) := (kc _ _ (by simp; try omega)).trans (by go_simp); have v6 : w3.cell? ⟨w.heap.size + 1, 6, none⟩ = some (.int .i64 0) := (kc _ _ (by simp; try omega)).trans (by go_simp); have v7 : w3.cell? ⟨w.heap.size + 1, 7, none⟩ = some (.int .i64 0) := (kc _ _ (by simp; try omega)).trans (by go_simp); have sz : ∀ o : Nat, w3.frozen? ⟨w.heap.size, o, none⟩ = false := (fun o => (kf _ _ (by simp; try omega)).trans (by go_simp)); have vz : ∀ o : Nat, w3.frozen? ⟨w.heap.size + 1, o, none⟩ = false := (fun o => (kf _ _ (by simp; try omega)).trans (by go_simp)); clear kc kf)
    | (go_at_call 60; refine (iP_is ht _).mono ?_; rintro e w4 ⟨rfl, rfl⟩))
  obtain ⟨y, ey, cs, far, fz, zy, hbel, hon⟩ := over8 (.int .i64 0) (.int .i64 0) (.int .i64 0) (.int .i64 0) (.int .i64 0) (.slice none 0 0) (.int .i64 0) (.int .i64 0) (g := w.heap.size + 1) v0 v1 v2 v3 v4 v5 v6 v7
  rw [← ey]
  refine bodyPost_ret (results_one rfl _ _ _ [.int .i64 0, .int .i64 0, .int .i64 0, .int .i64 0, .int .i64 0, .slice none 0 0, .int .i64 0, .int .i64 0] rfl cs Try.underlying53 rfl (by kernel_rfl)) rfl ?_
  exact ⟨rfl, hbw.trans (hbel _ (by omega))⟩
set_option maxHeartbeats 4000000 in
theorem implObserve_no4 {sa cy sn tp sv mt ta now rate trip flight : Int} {w : World} {a : Option Addr} (cap : Nat) {xs : List (Int × Int)} (hp : pokB sa cy sn tp sv mt ta xs = true) (h1 : ¬ now < sn) (h2 : ¬ now < ta) (ht : inP 1 trip 1000000000000000 = true) (hw : w10B flight = false) (smp : Smp w.heap.size w a xs) : Calls Try.prog 42 #[.agg #[.int .i64 sa, .int .i64 cy, .int .i64 sn, .int .i64 tp, .int .i64 sv, .slice a xs.length cap, .int .i64 mt, .int .i64 ta], .int .i64 now, .int .i64 rate, .int .i64 trip, .int .i64 flight] w fun e w' => e = .returned (.agg #[.int .i64 0, .int .i64 0, .int .i64 0, .int .i64 0, .int .i64 0, .slice none 0 0, .int .i64 0, .int .i64 0]) ∧ Below w.heap.size w w' := by
  go_enter Try.func42, Try.ntmps42
  go_wp2_with (first
    | (go_at_call 52; refine (implProbeOk_is cap hp (smp.here (by go_grown))).mono ?_; rintro e w3 ⟨rfl, hbw3⟩; have hbw : Below w.heap.size w w3 := below_two (by go_grown) hbw3; have kc := below_cells4 hbw3; have kf := below_frozens4 hbw3; have zl := hbw3.size; (try simp at zl); have s0 : w3.cell? ⟨w.heap.size, 0, none⟩ = some (.int .i64 sa) := (kc _ _ (by simp; try omega)).trans (by go_simp); have s1 : w3.cell? ⟨w.heap.size, 1, none⟩ = some (.int .i64 cy) := (kc _ _ (by simp; try omega)).trans (by go_simp); have s2 : w3.cell? ⟨w.heap.size, 2, none⟩ = some (.int .i64 sn) := (kc _ _ (by simp; try omega)).trans (by go_simp); have s3 : w3.cell? ⟨w.heap.size, 3, none⟩ = some (.int .i64 tp) := (kc _ _ (by simp; try omega)).trans (by go_simp); have s4 : w3.cell? ⟨w.heap.size, 4, none⟩ = some (.int .i64 sv) := (kc _ _ (by simp; try omega)).trans (by go_simp); have s5 : w3.cell? ⟨w.heap.size, 5, none⟩ = some (.slice a xs.length cap) := (kc _ _ (by simp; try omega)).trans (by go_simp); have s6 : w3.cell? ⟨w.heap.size, 6, none⟩ = some (.int .i64 mt) := (kc _ _ (by simp; try omega)).trans (by go_simp); have s7 : w3.cell? ⟨w.heap.size, 7, none⟩ = some (.int .i64 ta) := (kc _ _ (by simp; try omega)).trans (by go_simp); have v0 : w3.cell? ⟨w.heap.size + 1, 0, none⟩ = some (.int .i64 0) := (kc _ _ (by simp; try omega)).trans (by go_simp); have v1 : w3.cell? ⟨w.heap.size + 1, 1, none⟩ = some (.int .i64 0) := (kc _ _ (by simp; try omega)).trans (by go_simp); have v2 : w3.cell? ⟨w.heap.size + 1, 2, none⟩ = some (.int .i64 0) := (kc _ _ (by simp; try omega)).trans (by go_simp); have v3 : w3.cell? ⟨w.heap.size + 1, 3, none⟩ = some (.int .i64 0) := (kc _ _ (by simp; try omega)).trans (by go_simp); have v4 : w3.cell? ⟨w.heap.size + 1, 4, none⟩ = some (.int .i64 0) := (kc _ _ (by simp; try omega)).trans (by go_simp); have v5 : w3.cell? ⟨w.heap.size + 1, 5, none⟩ = some (.slice none 0 0) := (kc _ _ (by simp; try omega)).trans (by go_simp); have v6 : w3.cell? ⟨w.heap.size + 1, 6, none⟩ = some (.int .i64 0) := (kc _ _ (by simp; try omega)).trans (by go_simp); have v7 : w3.cell? ⟨w.heap.size + 1, 7, none⟩ = some (.int .i64 0) := (kc _ _ (by simp; try omega)).trans (by go_simp); have sz : ∀ o : Nat, w3.frozen? ⟨w.heap.size, o, none⟩ = false := (fun o => (kf _ _ (by simp; try omega)).trans (by go_simp)); have vz : ∀ o : Nat, w3.frozen? ⟨w.heap.size + 1, o, none⟩ = false := (fun o => (kf _ _ (by simp; try omega)).trans (by go_simp)); clear kc kf)
    | (go_at_call 60; refine (iP_is ht _).mono ?_; rintro e w4 ⟨rfl, rfl⟩)
    | (go_at_call 70; refine (iWin_is hw _).mono ?_; rintro e w4 ⟨rfl, rfl⟩))
  obtain ⟨y, ey, cs, far, fz, zy, hbel, hon⟩ := over8 (.int .i64 0) (.int .i64 0) (.int .i64 0) (.int .i64 0) (.int .i64 0) (.slice none 0 0) (.int .i64 0) (.int .i64 0) (g := w.heap.size + 1) v0 v1 v2 v3 v4 v5 v6 v7
  rw [← ey]
  refine bodyPost_ret (results_one rfl _ _ _ [.int .i64 0, .int .i64 0, .int .i64 0, .int .i64 0, .int .i64 0, .slice none 0 0, .int .i64 0, .int .i64 0] rfl cs Try.underlying53 rfl (by kernel_rfl)) rfl ?_
  exact ⟨rfl, hbw.trans (hbel _ (by omega))⟩
set_option maxHeartbeats 4000000 in
theorem implObserve_push {sa cy sn tp sv mt ta now rate trip flight : Int} {w : World} {a : Option Addr} (cap : Nat) {xs : List (Int × Int)} (hp : pokB sa cy sn tp sv mt ta xs = true) (h1 : ¬ now < sn) (h2 : ¬ now < ta) (ht : inP 1 trip 1000000000000000 = true) (hw : w10B flight = true) (HP : Hid (¬ PushOk true xs (now, rate) 10000000000)) (smp : Smp w.heap.size w a xs) : Calls Try.prog 42 #[.agg #[.int .i64 sa, .int .i64 cy, .int .i64 sn, .int .i64 tp, .int .i64 sv, .slice a xs.length cap, .int .i64 mt, .int .i64 ta], .int .i64 now, .int .i64 rate, .int .i64 trip, .int .i64 flight] w fun e w' => e = .returned (.agg #[.int .i64 0, .int .i64 0, .int .i64 0, .int .i64 0, .int .i64 0, .slice none 0 0, .int .i64 0, .int .i64 0]) ∧ Below w.heap.size w w' := by
  go_enter Try.func42, Try.ntmps42
  go_upto_region 4 with (first
    | (go_at_call 52; refine (implProbeOk_is cap hp (smp.here (by go_grown))).mono ?_; rintro e w3 ⟨rfl, hbw3⟩; have hbw : Below w.heap.size w w3 := below_two (by go_grown) hbw3; have kc := below_cells4 hbw3; have kf := below_frozens4 hbw3; have zl := hbw3.size; (try simp at zl); have s0 : w3.cell? ⟨w.heap.size, 0, none⟩ = some (.int .i64 sa) := (kc _ _ (by simp; try omega)).trans (by go_simp); have s1 : w3.cell? ⟨w.heap.size, 1, none⟩ = some (.int .i64 cy) := (kc _ _ (by simp; try omega)).trans (by go_simp); have s2 : w3.cell? ⟨w.heap.size, 2, none⟩ = some (.int .i64 sn) := (kc _ _ (by simp; try omega)).trans (by go_simp); have s3 : w3.cell? ⟨w.heap.size, 3, none⟩ = some (.int .i64 tp) := (kc _ _ (by simp; try omega)).trans (by go_simp); have s4 : w3.cell? ⟨w.heap.size, 4, none⟩ = some (.int .i64 sv) := (kc _ _ (by simp; try omega)).trans (by go_simp); have s5 : w3.cell? ⟨w.heap.size, 5, none⟩ = some (.slice a xs.length cap) := (kc _ _ (by simp; try omega)).trans (by go_simp); have s6 : w3.cell? ⟨w.heap.size, 6, none⟩ = some (.int .i64 mt) := (kc _ _ (by simp; try omega)).trans (by go_simp); have s7 : w3.cell? ⟨w.heap.size, 7, none⟩ = some (.int .i64 ta) := (kc _ _ (by simp; try omega)).trans (by go_simp); have v0 : w3.cell? ⟨w.heap.size + 1, 0, none⟩ = some (.int .i64 0) := (kc _ _ (by simp; try omega)).trans (by go_simp); have v1 : w3.cell? ⟨w.heap.size + 1, 1, none⟩ = some (.int .i64 0) := (kc _ _ (by simp; try omega)).trans (by go_simp); have v2 : w3.cell? ⟨w.heap.size + 1, 2, none⟩ = some (.int .i64 0) := (kc _ _ (by simp; try omega)).trans (by go_simp); have v3 : w3.cell? ⟨w.heap.size + 1, 3, none⟩ = some (.int .i64 0) := (kc _ _ (by simp; try omega)).trans (by go_simp); have v4 : w3.cell? ⟨w.heap.size + 1, 4, none⟩ = some (.int .i64 0) := (kc _ _ (by simp; try omega)).trans (by go_simp); have v5 : w3.cell? ⟨w.heap.size + 1, 5, none⟩ = some (.slice none 0 0) := (kc _ _ (by simp; try omega)).trans (by go_simp); have v6 : w3.cell? ⟨w.heap.size + 1, 6, none⟩ = some (.int .i64 0) := (kc _ _ (by simp; try omega)).trans (by go_simp); have v7 : w3.cell? ⟨w.heap.size + 1, 7, none⟩ = some (.int .i64 0) := (kc _ _ (by simp; try omega)).trans (by go_simp); have sz : ∀ o : Nat, w3.frozen? ⟨w.heap.size, o, none⟩ = false := (fun o => (kf _ _ (by simp; try omega)).trans (by go_simp)); have vz : ∀ o : Nat, w3.frozen? ⟨w.heap.size + 1, o, none⟩ = false := (fun o => (kf _ _ (by simp; try omega)).trans (by go_simp)); clear kc kf)
    | (go_at_call 60; refine (iP_is ht _).mono ?_; rintro e w4 ⟨rfl, rfl⟩)
    | (go_at_call 70; refine (iWin_is hw _).mono ?_; rintro e w4 ⟨rfl, rfl⟩)
    | (go_at_call 91; refine (implPush_no cap (smp.here hbw) HP.out).mono ?_; rintro e wP ⟨rfl, hbP⟩; have hbw : Below w.heap.size w wP := below_two hbw hbP; have s0 := (hbP.cell (p := ⟨w.heap.size, 0, none⟩) (by show w.heap.size < _; omega)).trans s0; have s1 := (hbP.cell (p := ⟨w.heap.size, 1, none⟩) (by show w.heap.size < _; omega)).trans s1; have s2 := (hbP.cell (p := ⟨w.heap.size, 2, none⟩) (by show w.heap.size < _; omega)).trans s2; have s3 := (hbP.cell (p := ⟨w.heap.size, 3, none⟩) (by show w.heap.size < _; omega)).trans s3; have s4 := (hbP.cell (p := ⟨w.heap.size, 4, none⟩) (by show w.heap.size < _; omega)).trans s4; have s5 := (hbP.cell (p := ⟨w.heap.size, 5, none⟩) (by show w.heap.size < _; omega)).trans s5; have s6 := (hbP.cell (p := ⟨w.heap.size, 6, none⟩) (by show w.heap.size < _; omega)).trans s6; have s7 := (hbP.cell (p := ⟨w.heap.size, 7, none⟩) (by show w.heap.size < _; omega)).trans s7; have v0 := (hbP.cell (p := ⟨w.heap.size + 1, 0, none⟩) (by show w.heap.size + 1 < _; omega)).trans v0; have v1 := (hbP.cell (p := ⟨w.heap.size + 1, 1, none⟩) (by show w.heap.size + 1 < _; omega)).trans v1; have v2 := (hbP.cell (p := ⟨w.heap.size + 1, 2, none⟩) (by show w.heap.size + 1 < _; omega)).trans v2; have v3 := (hbP.cell (p := ⟨w.heap.size + 1, 3, none⟩) (by show w.heap.size + 1 < _; omega)).trans v3; have v4 := (hbP.cell (p := ⟨w.heap.size + 1, 4, none⟩) (by show w.heap.size + 1 < _; omega)).trans v4; have v5 := (hbP.cell (p := ⟨w.heap.size + 1, 5, none⟩) (by show w.heap.size + 1 < _; omega)).trans v5; have v6 := (hbP.cell (p := ⟨w.heap.size + 1, 6, none⟩) (by show w.heap.size + 1 < _; omega)).trans v6; have v7 := (hbP.cell (p := ⟨w.heap.size + 1, 7, none⟩) (by show w.heap.size + 1 < _; omega)).trans v7; have vz : ∀ o : Nat, wP.frozen? ⟨w.heap.size + 1, o, none⟩ = false := fun o => (hbP.frozen (p := ⟨w.heap.size + 1, o, none⟩) (by show w.heap.size + 1 < _; omega)).trans (vz o); have sz : ∀ o : Nat, wP.frozen? ⟨w.heap.size, o, none⟩ = false := fun o => (hbP.frozen (p := ⟨w.heap.size, o, none⟩) (by show w.heap.size < _; omega)).trans (sz o); have zl : w.heap.size + 1 + 1 ≤ wP.heap.size := Nat.le_trans zl hbP.size))
  obtain ⟨x3, hx3⟩ : ∃ x, x = wP.alloc (.cells #[.slice none 0 0] 51) := ⟨_, rfl⟩
  obtain ⟨fb, hfb⟩ : ∃ b, b = wP.heap.size := ⟨_, rfl⟩
  rw [← hx3, ← hfb]
  have hb4 : Below wP.heap.size wP x3 := by rw [hx3]; exact new_below _ _
  have hbw : Below w.heap.size w x3 := below_two hbw hb4
  have s0 := (hb4.cell (p := ⟨w.heap.size, 0, none⟩) (by show w.heap.size < _; omega)).trans s0
  have s1 := (hb4.cell (p := ⟨w.heap.size, 1, none⟩) (by show w.heap.size < _; omega)).trans s1
  have s2 := (hb4.cell (p := ⟨w.heap.size, 2, none⟩) (by show w.heap.size < _; omega)).trans s2
  have s3 := (hb4.cell (p := ⟨w.heap.size, 3, none⟩) (by show w.heap.size < _; omega)).trans s3
  have s4 := (hb4.cell (p := ⟨w.heap.size, 4, none⟩) (by show w.heap.size < _; omega)).trans s4
  have s5 := (hb4.cell (p := ⟨w.heap.size, 5, none⟩) (by show w.heap.size < _; omega)).trans s5
  have s6 := (hb4.cell (p := ⟨w.heap.size, 6, none⟩) (by show w.heap.size < _; omega)).trans s6
  have s7 := (hb4.cell (p := ⟨w.heap.size, 7, none⟩) (by show w.heap.size < _; omega)).trans s7
  have v0 := (hb4.cell (p := ⟨w.heap.size + 1, 0, none⟩) (by show w.heap.size + 1 < _; omega)).trans v0
  have v1 := (hb4.cell (p := ⟨w.heap.size + 1, 1, none⟩) (by show w.heap.size + 1 < _; omega)).trans v1
  have v2 := (hb4.cell (p := ⟨w.heap.size + 1, 2, none⟩) (by show w.heap.size + 1 < _; omega)).trans v2
  have v3 := (hb4.cell (p := ⟨w.heap.size + 1, 3, none⟩) (by show w.heap.size + 1 < _; omega)).trans v3
  have v4 := (hb4.cell (p := ⟨w.heap.size + 1, 4, none⟩) (by show w.heap.size + 1 < _; omega)).trans v4
  have v5 := (hb4.cell (p := ⟨w.heap.size + 1, 5, none⟩) (by show w.heap.size + 1 < _; omega)).trans v5
  have v6 := (hb4.cell (p := ⟨w.heap.size + 1, 6, none⟩) (by show w.heap.size + 1 < _; omega)).trans v6
  have v7 := (hb4.cell (p := ⟨w.heap.size + 1, 7, none⟩) (by show w.heap.size + 1 < _; omega)).trans v7
  have vz : ∀ o : Nat, x3.frozen? ⟨w.heap.size + 1, o, none⟩ = false := fun o => (hb4.frozen (p := ⟨w.heap.size + 1, o, none⟩) (by show w.heap.size + 1 < _; omega)).trans (vz o)
  have sz : ∀ o : Nat, x3.frozen? ⟨w.heap.size, o, none⟩ = false := fun o => (hb4.frozen (p := ⟨w.heap.size, o, none⟩) (by show w.heap.size < _; omega)).trans (sz o)
  have zl : w.heap.size + 1 + 1 ≤ x3.heap.size := Nat.le_trans zl hb4.size
  clear hx3 hfb
  go_wp2
  obtain ⟨y, ey, cs, far, fz, zy, hbel, hon⟩ := over8 (.int .i64 0) (.int .i64 0) (.int .i64 0) (.int .i64 0) (.int .i64 0) (.slice none 0 0) (.int .i64 0) (.int .i64 0) (g := w.heap.size + 1) v0 v1 v2 v3 v4 v5 v6 v7
  rw [← ey]
  refine bodyPost_ret (results_one rfl _ _ _ [.int .i64 0, .int .i64 0, .int .i64 0, .int .i64 0, .int .i64 0, .slice none 0 0, .int .i64 0, .int .i64 0] rfl cs Try.underlying53 rfl (by kernel_rfl)) rfl ?_
  exact ⟨rfl, hbw.trans (hbel _ (by omega))⟩
theorem obE_yes {was now : Int} {p : Pb} (h : was ≠ 4) (k : 10000000000 ≤ now - p.ta) : obE was now p = { p with sa := 4, sn := now } := by unfold obE; exact if_pos ⟨h, k⟩
theorem obE_no {was now : Int} {p : Pb} (k : ¬ (was ≠ 4 ∧ 10000000000 ≤ now - p.ta)) : obE was now p = p := by unfold obE; exact if_neg k
theorem obF_no {was now : Int} {p : Pb} (k : ¬ (was = 4 ∧ 200000000 ≤ now - p.sn)) : obF was now p = p := by unfold obF; exact if_neg k
theorem obD_no {was now : Int} {p : Pb} (k : ¬ was = 3) : obD was now p = p := by unfold obD; exact if_neg (fun h => k h.1)
theorem obC_no {now be fl : Int} {p : Pb} (k : ¬ p.sa = 2) : obC now be fl p = p := by unfold obC; exact if_neg (fun h => k h.1)
theorem obB_no {now be : Int} {p : Pb} (k : ¬ p.sa = 1) : obB now be p = p := by unfold obB; exact if_neg k
theorem obEF {was now : Int} {c : Pb} (h : was ≠ 4) {d : Pb} (e : obF was now (obE was now c) = d) : (10000000000 ≤ now - c.ta → d = { c with sa := 4, sn := now }) ∧ (¬ 10000000000 ≤ now - c.ta → d = c) := by
  rw [obF_no (fun k => h k.1)] at e
  constructor
  · intro k
    rw [← e, obE_yes h k]
  · intro k
    rw [← e, obE_no (fun x => k x.2)]
theorem obBs {now be cy sn tp sv mt ta : Int} : ∃ sa2 sn2 tp2 sv2, obB now be ⟨1, cy, sn, tp, sv, mt, ta⟩ = ⟨sa2, cy, sn2, tp2, sv2, mt, ta⟩ ∧ (sa2 = 1 ∨ sa2 = 2) := by
  unfold obB
  split
  · split
    · exact ⟨_, _, _, _, rfl, .inl rfl⟩
    · split
      · exact ⟨_, _, _, _, rfl, .inr rfl⟩
      · exact ⟨_, _, _, _, rfl, .inl rfl⟩
  · exact ⟨_, _, _, _, rfl, .inl rfl⟩
theorem obCs {now be fl sa cy sn tp sv mt ta : Int} : ∃ sa3 cy3 sn3, obC now be fl ⟨sa, cy, sn, tp, sv, mt, ta⟩ = ⟨sa3, cy3, sn3, tp, sv, mt, ta⟩ := by
  unfold obC
  split
  · exact ⟨_, _, _, rfl⟩
  · exact ⟨_, _, _, rfl⟩
theorem obDs {was now sa cy sn tp sv mt ta : Int} : ∃ cy4 sn4, obD was now ⟨sa, cy, sn, tp, sv, mt, ta⟩ = ⟨sa, cy4, sn4, tp, sv, mt, ta⟩ := by
  unfold obD
  split
  · exact ⟨_, _, rfl⟩
  · exact ⟨_, _, rfl⟩
theorem moved_is {sa cy sn tp sv mt ta now flight be : Int} {s : Pb} {w : World} {a : Option Addr} (cap : Nat) {xs : List (Int × Int)} (HBE : Hid (bestOf xs = be)) (hsa : 1 ≤ sa ∧ sa ≤ 4) (hcy : 0 ≤ cy ∧ cy ≤ 7) (htp : 0 ≤ tp ∧ tp ≤ 1000000000000) (hsv : 0 ≤ sv ∧ sv ≤ 3) (r : IntKind.i64.wrap (now - sn) = now - sn) (rE : IntKind.i64.wrap (now - ta) = now - ta) (hs : obF sa now (obE sa now (obD sa now (obC now be flight (obB now be ⟨sa, cy, sn, tp, sv, mt, ta⟩)))) = s) (smp : Smp w.heap.size w a xs) : Calls Try.prog 93 #[.agg #[.int .i64 sa, .int .i64 cy, .int .i64 sn, .int .i64 tp, .int .i64 sv, .slice a xs.length cap, .int .i64 mt, .int .i64 ta], .int .i64 now, .int .i64 flight] w fun e w' => e = .returned (.agg #[.int .i64 s.sa, .int .i64 s.cy, .int .i64 s.sn, .int .i64 s.tp, .int .i64 s.sv, .slice a xs.length cap, .int .i64 s.mt, .int .i64 s.ta]) ∧ Below w.heap.size w w' := by
  rcases (show sa = 1 ∨ sa = 2 ∨ sa = 3 ∨ sa = 4 by omega) with rfl | rfl | rfl | rfl
  · obtain ⟨sa2, sn2, tp2, sv2, hB, h2⟩ := obBs (now := now) (be := be) (cy := cy) (sn := sn) (tp := tp) (sv := sv) (mt := mt) (ta := ta)
    rw [hB] at hs
    rcases h2 with rfl | rfl
    · rw [obC_no (p := ⟨1, cy, sn2, tp2, sv2, mt, ta⟩) (show ¬ (1 : Int) = 2 by decide), obD_no (show ¬ (1 : Int) = 3 by decide)] at hs
      obtain ⟨y1, y2⟩ := obEF (by decide) hs
      by_cases kE : 10000000000 ≤ now - ta
      · have e := y1 kE
        subst e
        exact moved_1a cap HBE rE htp hsv hB ⟨fun _ => ⟨rfl, rfl⟩, fun k => absurd kE k⟩ smp
      · have e := y2 kE
        subst e
        exact moved_1a cap HBE rE htp hsv hB ⟨fun k => absurd k kE, fun _ => ⟨rfl, rfl⟩⟩ smp
    · obtain ⟨sa3, cy3, sn3, hC⟩ := obCs (now := now) (be := be) (fl := flight) (sa := 2) (cy := cy) (sn := sn2) (tp := tp2) (sv := sv2) (mt := mt) (ta := ta)
      rw [hC, obD_no (show ¬ (1 : Int) = 3 by decide)] at hs
      obtain ⟨y1, y2⟩ := obEF (by decide) hs
      by_cases kE : 10000000000 ≤ now - ta
      · have e := y1 kE
        subst e
        exact moved_1b cap HBE rE htp hsv hB hC ⟨fun _ => ⟨rfl, rfl⟩, fun k => absurd kE k⟩ smp
      · have e := y2 kE
        subst e
        exact moved_1b cap HBE rE htp hsv hB hC ⟨fun k => absurd k kE, fun _ => ⟨rfl, rfl⟩⟩ smp
  · rw [obB_no (p := ⟨2, cy, sn, tp, sv, mt, ta⟩) (show ¬ (2 : Int) = 1 by decide)] at hs
    obtain ⟨sa3, cy3, sn3, hC⟩ := obCs (now := now) (be := be) (fl := flight) (sa := 2) (cy := cy) (sn := sn) (tp := tp) (sv := sv) (mt := mt) (ta := ta)
    rw [hC, obD_no (show ¬ (2 : Int) = 3 by decide)] at hs
    obtain ⟨y1, y2⟩ := obEF (by decide) hs
    by_cases kE : 10000000000 ≤ now - ta
    · have e := y1 kE
      subst e
      exact moved_2 cap HBE rE hC ⟨fun _ => ⟨rfl, rfl⟩, fun k => absurd kE k⟩ smp
    · have e := y2 kE
      subst e
      exact moved_2 cap HBE rE hC ⟨fun k => absurd k kE, fun _ => ⟨rfl, rfl⟩⟩ smp
  · rw [obB_no (p := ⟨3, cy, sn, tp, sv, mt, ta⟩) (show ¬ (3 : Int) = 1 by decide), obC_no (p := ⟨3, cy, sn, tp, sv, mt, ta⟩) (show ¬ (3 : Int) = 2 by decide)] at hs
    obtain ⟨cy4, sn4, hD⟩ := obDs (was := 3) (now := now) (sa := 3) (cy := cy) (sn := sn) (tp := tp) (sv := sv) (mt := mt) (ta := ta)
    rw [hD] at hs
    obtain ⟨y1, y2⟩ := obEF (by decide) hs
    by_cases kE : 10000000000 ≤ now - ta
    · have e := y1 kE
      subst e
      exact moved_3 (flight := flight) (be := be) cap HBE rE r hcy hD ⟨fun _ => ⟨rfl, rfl⟩, fun k => absurd kE k⟩ smp
    · have e := y2 kE
      subst e
      exact moved_3 (flight := flight) (be := be) cap HBE rE r hcy hD ⟨fun k => absurd k kE, fun _ => ⟨rfl, rfl⟩⟩ smp
  · rw [obB_no (p := ⟨4, cy, sn, tp, sv, mt, ta⟩) (show ¬ (4 : Int) = 1 by decide), obC_no (p := ⟨4, cy, sn, tp, sv, mt, ta⟩) (show ¬ (4 : Int) = 2 by decide), obD_no (show ¬ (4 : Int) = 3 by decide), obE_no (fun k => k.1 rfl)] at hs
    by_cases k : 200000000 ≤ now - sn
    · rw [show obF 4 now ⟨4, cy, sn, tp, sv, mt, ta⟩ = ⟨3, 0, now, tp, sv, mt, ta⟩ by unfold obF; exact if_pos ⟨rfl, k⟩] at hs
      subst hs
      exact moved_4y r k
    · rw [obF_no (p := ⟨4, cy, sn, tp, sv, mt, ta⟩) (fun h => k h.2)] at hs
      subst hs
      exact moved_4n r k
set_option maxHeartbeats 4000000 in
theorem implObserve_go {sa cy sn tp sv mt ta now rate trip flight : Int} {w : World} {a : Option Addr} (cap : Nat) {xs zs : List (Int × Int)} (hp : pokB sa cy sn tp sv mt ta xs = true) (hn : timeB now = true) (ht : inP 1 trip 1000000000000000 = true) (hw : w10B flight = true) (h1 : ¬ now < sn) (h2 : ¬ now < ta) (HP : Hid (PushOk true xs (now, rate) 10000000000)) (HZ : Hid (pushOf true xs (now, rate) 10000000000 = zs)) (smp : Smp w.heap.size w a xs) (HLC : Hid (xs.length ≤ cap)) (HNN : Hid (a = none → cap = 0)) : Calls Try.prog 42 #[.agg #[.int .i64 sa, .int .i64 cy, .int .i64 sn, .int .i64 tp, .int .i64 sv, .slice a xs.length cap, .int .i64 mt, .int .i64 ta], .int .i64 now, .int .i64 rate, .int .i64 trip, .int .i64 flight] w (ObPost w zs (obs now (bestOf zs) trip flight ⟨sa, cy, sn, tp, sv, mt, ta⟩)) := by
  have t0 := tim_num hn
  obtain ⟨sn0, ta0, tp0, cy0, sv0⟩ := pok_more hp
  have hsa : 1 ≤ sa ∧ sa ≤ 4 := by
    have q := hp
    unfold pokB inP at q
    simp only [Bool.and_eq_true, decide_eq_true_eq] at q
    omega
  have r : IntKind.i64.wrap (now - sn) = now - sn := by rw [IntKind.wrap_i64]; omega
  obtain ⟨mt1, ta1, hA⟩ : ∃ mt1 ta1, obA now trip ⟨sa, cy, sn, tp, sv, mt, ta⟩ = ⟨sa, cy, sn, tp, sv, mt1, ta1⟩ := by
    unfold obA
    split
    · exact ⟨_, _, rfl⟩
    · exact ⟨_, _, rfl⟩
  have hta : 0 ≤ ta1 ∧ ta1 ≤ now := by
    have q := hA
    unfold obA at q
    split at q
    · injection q with _ _ _ _ _ e1 e2
      have e2 : now = ta1 := e2
      omega
    · injection q with _ _ _ _ _ e1 e2
      have e2 : ta = ta1 := e2
      omega
  have rE : IntKind.i64.wrap (now - ta1) = now - ta1 := by rw [IntKind.wrap_i64]; omega
  obtain ⟨s, hs⟩ : ∃ s, obF sa now (obE sa now (obD sa now (obC now (bestOf zs) flight (obB now (bestOf zs) ⟨sa, cy, sn, tp, sv, mt1, ta1⟩)))) = s := ⟨_, rfl⟩
  have HO : Hid (obs now (bestOf zs) trip flight ⟨sa, cy, sn, tp, sv, mt, ta⟩ = s) := by
    show _ = _
    unfold obs
    rw [hA]
    exact hs
  have HM : Hid (∀ w : World, Smp w.heap.size w (some ⟨0, 0, none⟩) [] → True) := fun _ _ => trivial
  have HV : Hid (∀ (w : World) (g cg : Nat), Smp w.heap.size w (some ⟨g, 0, none⟩) zs → Calls Try.prog 93 #[.agg #[.int .i64 sa, .int .i64 cy, .int .i64 sn, .int .i64 tp, .int .i64 sv, .slice (some ⟨g, 0, none⟩) zs.length cg, .int .i64 mt1, .int .i64 ta1], .int .i64 now, .int .i64 flight] w fun e w' => e = .returned (.agg #[.int .i64 s.sa, .int .i64 s.cy, .int .i64 s.sn, .int .i64 s.tp, .int .i64 s.sv, .slice (some ⟨g, 0, none⟩) zs.length cg, .int .i64 s.mt, .int .i64 s.ta]) ∧ Below w.heap.size w w') := fun w g cg smp => moved_is cg (show Hid (bestOf zs = bestOf zs) from (rfl : bestOf zs = bestOf zs)) hsa cy0 tp0 sv0 r rE hs smp
  have HA : Hid (∀ (w : World) (g cg : Nat), Calls Try.prog 92 #[.agg #[.int .i64 sa, .int .i64 cy, .int .i64 sn, .int .i64 tp, .int .i64 sv, .slice (some ⟨g, 0, none⟩) zs.length cg, .int .i64 mt, .int .i64 ta], .int .i64 now, .int .i64 trip] w fun e w' => e = .returned (.agg #[.int .i64 sa, .int .i64 cy, .int .i64 sn, .int .i64 tp, .int .i64 sv, .slice (some ⟨g, 0, none⟩) zs.length cg, .int .i64 mt1, .int .i64 ta1]) ∧ Below w.heap.size w w') := fun w g cg => withTrip_is r hA
  clear hA hs rE hta hsa HM
  go_enter Try.func42, Try.ntmps42
  go_upto_region 4 with (first
    | (go_at_call 52; refine (implProbeOk_is cap hp (smp.here (by go_grown))).mono ?_; rintro e w3 ⟨rfl, hbw3⟩; have hbw : Below w.heap.size w w3 := below_two (by go_grown) hbw3; have kc := below_cells4 hbw3; have kf := below_frozens4 hbw3; have zl := hbw3.size; (try simp at zl); have s0 : w3.cell? ⟨w.heap.size, 0, none⟩ = some (.int .i64 sa) := (kc _ _ (by simp; try omega)).trans (by go_simp); have s1 : w3.cell? ⟨w.heap.size, 1, none⟩ = some (.int .i64 cy) := (kc _ _ (by simp; try omega)).trans (by go_simp); have s2 : w3.cell? ⟨w.heap.size, 2, none⟩ = some (.int .i64 sn) := (kc _ _ (by simp; try omega)).trans (by go_simp); have s3 : w3.cell? ⟨w.heap.size, 3, none⟩ = some (.int .i64 tp) := (kc _ _ (by simp; try omega)).trans (by go_simp); have s4 : w3.cell? ⟨w.heap.size, 4, none⟩ = some (.int .i64 sv) := (kc _ _ (by simp; try omega)).trans (by go_simp); have s5 : w3.cell? ⟨w.heap.size, 5, none⟩ = some (.slice a xs.length cap) := (kc _ _ (by simp; try omega)).trans (by go_simp); have s6 : w3.cell? ⟨w.heap.size, 6, none⟩ = some (.int .i64 mt) := (kc _ _ (by simp; try omega)).trans (by go_simp); have s7 : w3.cell? ⟨w.heap.size, 7, none⟩ = some (.int .i64 ta) := (kc _ _ (by simp; try omega)).trans (by go_simp); have v0 : w3.cell? ⟨w.heap.size + 1, 0, none⟩ = some (.int .i64 0) := (kc _ _ (by simp; try omega)).trans (by go_simp); have v1 : w3.cell? ⟨w.heap.size + 1, 1, none⟩ = some (.int .i64 0) := (kc _ _ (by simp; try omega)).trans (by go_simp); have v2 : w3.cell? ⟨w.heap.size + 1, 2, none⟩ = some (.int .i64 0) := (kc _ _ (by simp; try omega)).trans (by go_simp); have v3 : w3.cell? ⟨w.heap.size + 1, 3, none⟩ = some (.int .i64 0) := (kc _ _ (by simp; try omega)).trans (by go_simp); have v4 : w3.cell? ⟨w.heap.size + 1, 4, none⟩ = some (.int .i64 0) := (kc _ _ (by simp; try omega)).trans (by go_simp); have v5 : w3.cell? ⟨w.heap.size + 1, 5, none⟩ = some (.slice none 0 0) := (kc _ _ (by simp; try omega)).trans (by go_simp); have v6 : w3.cell? ⟨w.heap.size + 1, 6, none⟩ = some (.int .i64 0) := (kc _ _ (by simp; try omega)).trans (by go_simp); have v7 : w3.cell? ⟨w.heap.size + 1, 7, none⟩ = some (.int .i64 0) := (kc _ _ (by simp; try omega)).trans (by go_simp); have sz : ∀ o : Nat, w3.frozen? ⟨w.heap.size, o, none⟩ = false := (fun o => (kf _ _ (by simp; try omega)).trans (by go_simp)); have vz : ∀ o : Nat, w3.frozen? ⟨w.heap.size + 1, o, none⟩ = false := (fun o => (kf _ _ (by simp; try omega)).trans (by go_simp)); clear kc kf)
    | (go_at_call 60; refine (iP_is ht _).mono ?_; rintro e w4 ⟨rfl, rfl⟩)
    | (go_at_call 70; refine (iWin_is hw _).mono ?_; rintro e w4 ⟨rfl, rfl⟩)
    | (go_at_call 91; refine (implPush_yes cap (smp.here hbw) HLC.out HNN.out HP.out).mono ?_; rw [HZ.out]; rintro e wP ⟨g, cg, rfl, hg0, hg1, fg, hcg, hbP⟩; have hbw : Below w.heap.size w wP := below_two hbw hbP; have zg : w.heap.size + 1 + 1 ≤ g := Nat.le_trans zl hg0; have s0 := (hbP.cell (p := ⟨w.heap.size, 0, none⟩) (by show w.heap.size < _; omega)).trans s0; have s1 := (hbP.cell (p := ⟨w.heap.size, 1, none⟩) (by show w.heap.size < _; omega)).trans s1; have s2 := (hbP.cell (p := ⟨w.heap.size, 2, none⟩) (by show w.heap.size < _; omega)).trans s2; have s3 := (hbP.cell (p := ⟨w.heap.size, 3, none⟩) (by show w.heap.size < _; omega)).trans s3; have s4 := (hbP.cell (p := ⟨w.heap.size, 4, none⟩) (by show w.heap.size < _; omega)).trans s4; have s5 := (hbP.cell (p := ⟨w.heap.size, 5, none⟩) (by show w.heap.size < _; omega)).trans s5; have s6 := (hbP.cell (p := ⟨w.heap.size, 6, none⟩) (by show w.heap.size < _; omega)).trans s6; have s7 := (hbP.cell (p := ⟨w.heap.size, 7, none⟩) (by show w.heap.size < _; omega)).trans s7; have v0 := (hbP.cell (p := ⟨w.heap.size + 1, 0, none⟩) (by show w.heap.size + 1 < _; omega)).trans v0; have v1 := (hbP.cell (p := ⟨w.heap.size + 1, 1, none⟩) (by show w.heap.size + 1 < _; omega)).trans v1; have v2 := (hbP.cell (p := ⟨w.heap.size + 1, 2, none⟩) (by show w.heap.size + 1 < _; omega)).trans v2; have v3 := (hbP.cell (p := ⟨w.heap.size + 1, 3, none⟩) (by show w.heap.size + 1 < _; omega)).trans v3; have v4 := (hbP.cell (p := ⟨w.heap.size + 1, 4, none⟩) (by show w.heap.size + 1 < _; omega)).trans v4; have v5 := (hbP.cell (p := ⟨w.heap.size + 1, 5, none⟩) (by show w.heap.size + 1 < _; omega)).trans v5; have v6 := (hbP.cell (p := ⟨w.heap.size + 1, 6, none⟩) (by show w.heap.size + 1 < _; omega)).trans v6; have v7 := (hbP.cell (p := ⟨w.heap.size + 1, 7, none⟩) (by show w.heap.size + 1 < _; omega)).trans v7; have vz : ∀ o : Nat, wP.frozen? ⟨w.heap.size + 1, o, none⟩ = false := fun o => (hbP.frozen (p := ⟨w.heap.size + 1, o, none⟩) (by show w.heap.size + 1 < _; omega)).trans (vz o); have sz : ∀ o : Nat, wP.frozen? ⟨w.heap.size, o, none⟩ = false := fun o => (hbP.frozen (p := ⟨w.heap.size, o, none⟩) (by show w.heap.size < _; omega)).trans (sz o); have zl : w.heap.size + 1 + 1 ≤ wP.heap.size := Nat.le_trans zl hbP.size))
  obtain ⟨x3, hx3⟩ : ∃ x, x = wP.alloc (.cells #[.slice (some ⟨g, 0, none⟩) zs.length cg] 51) := ⟨_, rfl⟩
  obtain ⟨fb, hfb⟩ : ∃ b, b = wP.heap.size := ⟨_, rfl⟩
  rw [← hx3, ← hfb]
  have f0 : x3.cell? ⟨fb, 0, none⟩ = some (.slice (some ⟨g, 0, none⟩) zs.length cg) := by rw [hx3, hfb]; go_simp
  have hb4 : Below wP.heap.size wP x3 := by rw [hx3]; exact new_below _ _
  have hbw : Below w.heap.size w x3 := below_two hbw hb4
  have fg : FV x3 (w.heap.size + 2) (.slice (some ⟨g, 0, none⟩) zs.length cg) zs := (FV.lower (.inl ⟨g, cg, rfl, hg0, hg1, fg, hcg⟩) (by omega)).next hb4
  have s0 := (hb4.cell (p := ⟨w.heap.size, 0, none⟩) (by show w.heap.size < _; omega)).trans s0
  have s1 := (hb4.cell (p := ⟨w.heap.size, 1, none⟩) (by show w.heap.size < _; omega)).trans s1
  have s2 := (hb4.cell (p := ⟨w.heap.size, 2, none⟩) (by show w.heap.size < _; omega)).trans s2
  have s3 := (hb4.cell (p := ⟨w.heap.size, 3, none⟩) (by show w.heap.size < _; omega)).trans s3
  have s4 := (hb4.cell (p := ⟨w.heap.size, 4, none⟩) (by show w.heap.size < _; omega)).trans s4
  have s5 := (hb4.cell (p := ⟨w.heap.size, 5, none⟩) (by show w.heap.size < _; omega)).trans s5
  have s6 := (hb4.cell (p := ⟨w.heap.size, 6, none⟩) (by show w.heap.size < _; omega)).trans s6
  have s7 := (hb4.cell (p := ⟨w.heap.size, 7, none⟩) (by show w.heap.size < _; omega)).trans s7
  have v0 := (hb4.cell (p := ⟨w.heap.size + 1, 0, none⟩) (by show w.heap.size + 1 < _; omega)).trans v0
  have v1 := (hb4.cell (p := ⟨w.heap.size + 1, 1, none⟩) (by show w.heap.size + 1 < _; omega)).trans v1
  have v2 := (hb4.cell (p := ⟨w.heap.size + 1, 2, none⟩) (by show w.heap.size + 1 < _; omega)).trans v2
  have v3 := (hb4.cell (p := ⟨w.heap.size + 1, 3, none⟩) (by show w.heap.size + 1 < _; omega)).trans v3
  have v4 := (hb4.cell (p := ⟨w.heap.size + 1, 4, none⟩) (by show w.heap.size + 1 < _; omega)).trans v4
  have v5 := (hb4.cell (p := ⟨w.heap.size + 1, 5, none⟩) (by show w.heap.size + 1 < _; omega)).trans v5
  have v6 := (hb4.cell (p := ⟨w.heap.size + 1, 6, none⟩) (by show w.heap.size + 1 < _; omega)).trans v6
  have v7 := (hb4.cell (p := ⟨w.heap.size + 1, 7, none⟩) (by show w.heap.size + 1 < _; omega)).trans v7
  have vz : ∀ o : Nat, x3.frozen? ⟨w.heap.size + 1, o, none⟩ = false := fun o => (hb4.frozen (p := ⟨w.heap.size + 1, o, none⟩) (by show w.heap.size + 1 < _; omega)).trans (vz o)
  have sz : ∀ o : Nat, x3.frozen? ⟨w.heap.size, o, none⟩ = false := fun o => (hb4.frozen (p := ⟨w.heap.size, o, none⟩) (by show w.heap.size < _; omega)).trans (sz o)
  have zl : w.heap.size + 1 + 1 ≤ x3.heap.size := Nat.le_trans zl hb4.size
  clear hx3 hfb hb4 hbP hg0 hg1 hcg
  go_upto_region 7 with (fail)
  obtain ⟨x4, hx4⟩ : ∃ x, x = x3.setCell ⟨w.heap.size, 5, none⟩ (.slice (some ⟨g, 0, none⟩) zs.length cg) := ⟨_, rfl⟩
  rw [← hx4]
  have oX : Only w.heap.size x3 x4 := by rw [hx4]; exact only_set3x _ _ _ _
  have s0 : x4.cell? ⟨w.heap.size, 0, none⟩ = some (.int .i64 sa) := by rw [hx4]; exact (set_other4 (by decide)).trans s0
  have s1 : x4.cell? ⟨w.heap.size, 1, none⟩ = some (.int .i64 cy) := by rw [hx4]; exact (set_other4 (by decide)).trans s1
  have s2 : x4.cell? ⟨w.heap.size, 2, none⟩ = some (.int .i64 sn) := by rw [hx4]; exact (set_other4 (by decide)).trans s2
  have s3 : x4.cell? ⟨w.heap.size, 3, none⟩ = some (.int .i64 tp) := by rw [hx4]; exact (set_other4 (by decide)).trans s3
  have s4 : x4.cell? ⟨w.heap.size, 4, none⟩ = some (.int .i64 sv) := by rw [hx4]; exact (set_other4 (by decide)).trans s4
  have s5 : x4.cell? ⟨w.heap.size, 5, none⟩ = some (.slice (some ⟨g, 0, none⟩) zs.length cg) := by rw [hx4]; exact set_same4 _ s5
  have s6 : x4.cell? ⟨w.heap.size, 6, none⟩ = some (.int .i64 mt) := by rw [hx4]; exact (set_other4 (by decide)).trans s6
  have s7 : x4.cell? ⟨w.heap.size, 7, none⟩ = some (.int .i64 ta) := by rw [hx4]; exact (set_other4 (by decide)).trans s7
  have v0 : x4.cell? ⟨w.heap.size + 1, 0, none⟩ = some (.int .i64 0) := (oX.cell (by show w.heap.size + 1 < _; omega) (by show w.heap.size + 1 ≠ _; omega)).trans v0
  have v1 : x4.cell? ⟨w.heap.size + 1, 1, none⟩ = some (.int .i64 0) := (oX.cell (by show w.heap.size + 1 < _; omega) (by show w.heap.size + 1 ≠ _; omega)).trans v1
  have v2 : x4.cell? ⟨w.heap.size + 1, 2, none⟩ = some (.int .i64 0) := (oX.cell (by show w.heap.size + 1 < _; omega) (by show w.heap.size + 1 ≠ _; omega)).trans v2
  have v3 : x4.cell? ⟨w.heap.size + 1, 3, none⟩ = some (.int .i64 0) := (oX.cell (by show w.heap.size + 1 < _; omega) (by show w.heap.size + 1 ≠ _; omega)).trans v3
  have v4 : x4.cell? ⟨w.heap.size + 1, 4, none⟩ = some (.int .i64 0) := (oX.cell (by show w.heap.size + 1 < _; omega) (by show w.heap.size + 1 ≠ _; omega)).trans v4
  have v5 : x4.cell? ⟨w.heap.size + 1, 5, none⟩ = some (.slice none 0 0) := (oX.cell (by show w.heap.size + 1 < _; omega) (by show w.heap.size + 1 ≠ _; omega)).trans v5
  have v6 : x4.cell? ⟨w.heap.size + 1, 6, none⟩ = some (.int .i64 0) := (oX.cell (by show w.heap.size + 1 < _; omega) (by show w.heap.size + 1 ≠ _; omega)).trans v6
  have v7 : x4.cell? ⟨w.heap.size + 1, 7, none⟩ = some (.int .i64 0) := (oX.cell (by show w.heap.size + 1 < _; omega) (by show w.heap.size + 1 ≠ _; omega)).trans v7
  have vz : ∀ o : Nat, x4.frozen? ⟨w.heap.size + 1, o, none⟩ = false := fun o => (oX.frozen (by show w.heap.size + 1 < _; omega) (by show w.heap.size + 1 ≠ _; omega)).trans (vz o)
  have sz : ∀ o : Nat, x4.frozen? ⟨w.heap.size, o, none⟩ = false := fun o => by rw [hx4]; simpa using sz o
  have hbw : Below w.heap.size w x4 := hbw.trans (oX.below (Nat.le_refl _) (by omega))
  have zl : w.heap.size + 1 + 1 ≤ x4.heap.size := Nat.le_trans zl oX.size
  have fg : FV x4 (w.heap.size + 2) (.slice (some ⟨g, 0, none⟩) zs.length cg) zs := fg.onlyO (OnlyO.of_only oX) (fun g hg e => by have := (fg.own hg).1; injection e with e; omega)
  clear hx4 oX f0
  go_wp2_with (first
    | (go_at_call 92; refine (HA.out _ g cg).mono ?_; rintro e w5 ⟨rfl, hbw5⟩; have hbw : Below w.heap.size w w5 := below_two hbw hbw5; have fg := fg.next hbw5; have s0 := (hbw5.cell (p := ⟨w.heap.size, 0, none⟩) (by show w.heap.size < _; omega)).trans s0; have s1 := (hbw5.cell (p := ⟨w.heap.size, 1, none⟩) (by show w.heap.size < _; omega)).trans s1; have s2 := (hbw5.cell (p := ⟨w.heap.size, 2, none⟩) (by show w.heap.size < _; omega)).trans s2; have s3 := (hbw5.cell (p := ⟨w.heap.size, 3, none⟩) (by show w.heap.size < _; omega)).trans s3; have s4 := (hbw5.cell (p := ⟨w.heap.size, 4, none⟩) (by show w.heap.size < _; omega)).trans s4; have s5 := (hbw5.cell (p := ⟨w.heap.size, 5, none⟩) (by show w.heap.size < _; omega)).trans s5; have s6 := (hbw5.cell (p := ⟨w.heap.size, 6, none⟩) (by show w.heap.size < _; omega)).trans s6; have s7 := (hbw5.cell (p := ⟨w.heap.size, 7, none⟩) (by show w.heap.size < _; omega)).trans s7; have v0 := (hbw5.cell (p := ⟨w.heap.size + 1, 0, none⟩) (by show w.heap.size + 1 < _; omega)).trans v0; have v1 := (hbw5.cell (p := ⟨w.heap.size + 1, 1, none⟩) (by show w.heap.size + 1 < _; omega)).trans v1; have v2 := (hbw5.cell (p := ⟨w.heap.size + 1, 2, none⟩) (by show w.heap.size + 1 < _; omega)).trans v2; have v3 := (hbw5.cell (p := ⟨w.heap.size + 1, 3, none⟩) (by show w.heap.size + 1 < _; omega)).trans v3; have v4 := (hbw5.cell (p := ⟨w.heap.size + 1, 4, none⟩) (by show w.heap.size + 1 < _; omega)).trans v4; have v5 := (hbw5.cell (p := ⟨w.heap.size + 1, 5, none⟩) (by show w.heap.size + 1 < _; omega)).trans v5; have v6 := (hbw5.cell (p := ⟨w.heap.size + 1, 6, none⟩) (by show w.heap.size + 1 < _; omega)).trans v6; have v7 := (hbw5.cell (p := ⟨w.heap.size + 1, 7, none⟩) (by show w.heap.size + 1 < _; omega)).trans v7; have vz : ∀ o : Nat, w5.frozen? ⟨w.heap.size + 1, o, none⟩ = false := fun o => (hbw5.frozen (p := ⟨w.heap.size + 1, o, none⟩) (by show w.heap.size + 1 < _; omega)).trans (vz o); have sz : ∀ o : Nat, w5.frozen? ⟨w.heap.size, o, none⟩ = false := fun o => (hbw5.frozen (p := ⟨w.heap.size, o, none⟩) (by show w.heap.size < _; omega)).trans (sz o); have zl : w.heap.size + 1 + 1 ≤ w5.heap.size := Nat.le_trans zl hbw5.size)
    | (go_at_call 93; refine (HV.out _ g cg (fv_smpO fg).2).mono ?_; rintro e w6 ⟨rfl, hbw6⟩; have hbw : Below w.heap.size w w6 := below_two hbw hbw6; have fg := fg.next hbw6; have s0 := (hbw6.cell (p := ⟨w.heap.size, 0, none⟩) (by show w.heap.size < _; omega)).trans s0; have s1 := (hbw6.cell (p := ⟨w.heap.size, 1, none⟩) (by show w.heap.size < _; omega)).trans s1; have s2 := (hbw6.cell (p := ⟨w.heap.size, 2, none⟩) (by show w.heap.size < _; omega)).trans s2; have s3 := (hbw6.cell (p := ⟨w.heap.size, 3, none⟩) (by show w.heap.size < _; omega)).trans s3; have s4 := (hbw6.cell (p := ⟨w.heap.size, 4, none⟩) (by show w.heap.size < _; omega)).trans s4; have s5 := (hbw6.cell (p := ⟨w.heap.size, 5, none⟩) (by show w.heap.size < _; omega)).trans s5; have s6 := (hbw6.cell (p := ⟨w.heap.size, 6, none⟩) (by show w.heap.size < _; omega)).trans s6; have s7 := (hbw6.cell (p := ⟨w.heap.size, 7, none⟩) (by show w.heap.size < _; omega)).trans s7; have v0 := (hbw6.cell (p := ⟨w.heap.size + 1, 0, none⟩) (by show w.heap.size + 1 < _; omega)).trans v0; have v1 := (hbw6.cell (p := ⟨w.heap.size + 1, 1, none⟩) (by show w.heap.size + 1 < _; omega)).trans v1; have v2 := (hbw6.cell (p := ⟨w.heap.size + 1, 2, none⟩) (by show w.heap.size + 1 < _; omega)).trans v2; have v3 := (hbw6.cell (p := ⟨w.heap.size + 1, 3, none⟩) (by show w.heap.size + 1 < _; omega)).trans v3; have v4 := (hbw6.cell (p := ⟨w.heap.size + 1, 4, none⟩) (by show w.heap.size + 1 < _; omega)).trans v4; have v5 := (hbw6.cell (p := ⟨w.heap.size + 1, 5, none⟩) (by show w.heap.size + 1 < _; omega)).trans v5; have v6 := (hbw6.cell (p := ⟨w.heap.size + 1, 6, none⟩) (by show w.heap.size + 1 < _; omega)).trans v6; have v7 := (hbw6.cell (p := ⟨w.heap.size + 1, 7, none⟩) (by show w.heap.size + 1 < _; omega)).trans v7; have vz : ∀ o : Nat, w6.frozen? ⟨w.heap.size + 1, o, none⟩ = false := fun o => (hbw6.frozen (p := ⟨w.heap.size + 1, o, none⟩) (by show w.heap.size + 1 < _; omega)).trans (vz o); have sz : ∀ o : Nat, w6.frozen? ⟨w.heap.size, o, none⟩ = false := fun o => (hbw6.frozen (p := ⟨w.heap.size, o, none⟩) (by show w.heap.size < _; omega)).trans (sz o); have zl : w.heap.size + 1 + 1 ≤ w6.heap.size := Nat.le_trans zl hbw6.size))
  obtain ⟨y, ey, cs, far, fz, zy, hbel, hon⟩ := over8 (.int .i64 s.sa) (.int .i64 s.cy) (.int .i64 s.sn) (.int .i64 s.tp) (.int .i64 s.sv) (.slice (some ⟨g, 0, none⟩) zs.length cg) (.int .i64 s.mt) (.int .i64 s.ta) (w := w6) (g := w.heap.size + 1) v0 v1 v2 v3 v4 v5 v6 v7
  rw [← ey]
  refine bodyPost_ret (results_one rfl _ _ _ [.int .i64 s.sa, .int .i64 s.cy, .int .i64 s.sn, .int .i64 s.tp, .int .i64 s.sv, .slice (some ⟨g, 0, none⟩) zs.length cg, .int .i64 s.mt, .int .i64 s.ta] rfl cs Try.underlying53 rfl (by kernel_rfl)) rfl ?_
  exact ⟨g, cg, by rw [HO.out], (fg.onlyO (OnlyO.of_only hon) (fun g hg e => by have := (fg.own hg).1; injection e with e; omega)).lower (by omega), hbw.trans (hbel _ (by omega))⟩
end Go.Proofs.Ytiibafphgjlffae

/- What spec's Quit answers. -/
import Derived.Test.YtoeiheccmpjclafSpecPlc4
namespace Go.Proofs.Ytoeiheccmpjclaf
open Go.ChangeShapes Go.WideShapes Go.ChangeAt Go.RowKit
set_option maxRecDepth 100000
set_option linter.unusedVariables false
set_option linter.unusedSimpArgs false

set_option maxHeartbeats 4000000 in
theorem specQuit_no0 {wd fl id n : Int} {w : World} {a : Option Addr} (cap : Nat) {xs : List Int} (hp : plB wd fl xs = false) (smp : ISmp w.heap.size w a xs) : Calls Try.prog 21 #[.agg #[.int .i64 wd, .int .i64 fl, .slice a xs.length cap], .int .i64 id, .int .i64 n] w fun e w' => e = .returned (.tuple #[.agg #[.int .i64 0, .int .i64 0, .slice none 0 0], .bool false]) ∧ Below w.heap.size w w' := by
  go_enter Try.func21, Try.ntmps21
  go_wp2_with (first
    | (go_at_call 49; refine (specPlaceOk_is cap hp (smp.here (by go_grown))).mono ?_; rintro e w3 ⟨rfl, hbw3⟩; have hbw : Below w.heap.size w w3 := below_two (by go_grown) hbw3; have kc := below_cells4 hbw3; have kf := below_frozens4 hbw3; have zl := hbw3.size; (try simp at zl); have p0 : w3.cell? ⟨w.heap.size, 0, none⟩ = some (.int .i64 wd) := (kc _ _ (by simp; try omega)).trans (by go_simp); have p1 : w3.cell? ⟨w.heap.size, 1, none⟩ = some (.int .i64 fl) := (kc _ _ (by simp; try omega)).trans (by go_simp); have p2 : w3.cell? ⟨w.heap.size, 2, none⟩ = some (.slice a xs.length cap) := (kc _ _ (by simp; try omega)).trans (by go_simp); have v0 : w3.cell? ⟨w.heap.size + 1, 0, none⟩ = some (.int .i64 0) := (kc _ _ (by simp; try omega)).trans (by go_simp); have v1 : w3.cell? ⟨w.heap.size + 1, 1, none⟩ = some (.int .i64 0) := (kc _ _ (by simp; try omega)).trans (by go_simp); have v2 : w3.cell? ⟨w.heap.size + 1, 2, none⟩ = some (.slice none 0 0) := (kc _ _ (by simp; try omega)).trans (by go_simp); have vz : ∀ o : Nat, w3.frozen? ⟨w.heap.size + 1, o, none⟩ = false := (fun o => (kf _ _ (by simp; try omega)).trans (by go_simp)); clear kc kf))
  obtain ⟨y, ey, cs, fzy, sz, hbel, hon⟩ := over3 (.int .i64 0) (.int .i64 0) (.slice none 0 0) (g := w.heap.size + 1) v0 v1 v2
  rw [← ey]
  refine bodyPost_ret (results_two rfl _ _ _ [.int .i64 0, .int .i64 0, .slice none 0 0] rfl cs Try.underlying37 rfl (by kernel_rfl)) rfl ?_
  exact ⟨rfl, hbw.trans (hbel _ (by omega))⟩
set_option maxHeartbeats 4000000 in
theorem specQuit_no1 {wd fl id n : Int} {w : World} {a : Option Addr} (cap : Nat) {xs : List Int} (hp : plB wd fl xs = true) (hh : hasI id xs = false) (smp : ISmp w.heap.size w a xs) : Calls Try.prog 21 #[.agg #[.int .i64 wd, .int .i64 fl, .slice a xs.length cap], .int .i64 id, .int .i64 n] w fun e w' => e = .returned (.tuple #[.agg #[.int .i64 0, .int .i64 0, .slice none 0 0], .bool false]) ∧ Below w.heap.size w w' := by
  have hl := (pl_num hp).2.2
  go_enter Try.func21, Try.ntmps21
  go_wp2_with (first
    | (go_at_call 49; refine (specPlaceOk_is cap hp (smp.here (by go_grown))).mono ?_; rintro e w3 ⟨rfl, hbw3⟩; have hbw : Below w.heap.size w w3 := below_two (by go_grown) hbw3; have kc := below_cells4 hbw3; have kf := below_frozens4 hbw3; have zl := hbw3.size; (try simp at zl); have p0 : w3.cell? ⟨w.heap.size, 0, none⟩ = some (.int .i64 wd) := (kc _ _ (by simp; try omega)).trans (by go_simp); have p1 : w3.cell? ⟨w.heap.size, 1, none⟩ = some (.int .i64 fl) := (kc _ _ (by simp; try omega)).trans (by go_simp); have p2 : w3.cell? ⟨w.heap.size, 2, none⟩ = some (.slice a xs.length cap) := (kc _ _ (by simp; try omega)).trans (by go_simp); have v0 : w3.cell? ⟨w.heap.size + 1, 0, none⟩ = some (.int .i64 0) := (kc _ _ (by simp; try omega)).trans (by go_simp); have v1 : w3.cell? ⟨w.heap.size + 1, 1, none⟩ = some (.int .i64 0) := (kc _ _ (by simp; try omega)).trans (by go_simp); have v2 : w3.cell? ⟨w.heap.size + 1, 2, none⟩ = some (.slice none 0 0) := (kc _ _ (by simp; try omega)).trans (by go_simp); have vz : ∀ o : Nat, w3.frozen? ⟨w.heap.size + 1, o, none⟩ = false := (fun o => (kf _ _ (by simp; try omega)).trans (by go_simp)); clear kc kf)
    | (go_at_call 51; refine (has_is cap hh hl (smp.here hbw)).mono ?_; rintro e w5 ⟨rfl, hb5⟩; have hbw : Below w.heap.size w w5 := below_two hbw hb5; have p0 := (hb5.cell (p := ⟨w.heap.size, 0, none⟩) (by show w.heap.size < _; omega)).trans p0; have p1 := (hb5.cell (p := ⟨w.heap.size, 1, none⟩) (by show w.heap.size < _; omega)).trans p1; have p2 := (hb5.cell (p := ⟨w.heap.size, 2, none⟩) (by show w.heap.size < _; omega)).trans p2; have v0 := (hb5.cell (p := ⟨w.heap.size + 1, 0, none⟩) (by show w.heap.size + 1 < _; omega)).trans v0; have v1 := (hb5.cell (p := ⟨w.heap.size + 1, 1, none⟩) (by show w.heap.size + 1 < _; omega)).trans v1; have v2 := (hb5.cell (p := ⟨w.heap.size + 1, 2, none⟩) (by show w.heap.size + 1 < _; omega)).trans v2; have vz : ∀ o : Nat, w5.frozen? ⟨w.heap.size + 1, o, none⟩ = false := fun o => (hb5.frozen (p := ⟨w.heap.size + 1, o, none⟩) (by show w.heap.size + 1 < _; omega)).trans (vz o); have zl : w.heap.size + 1 + 1 ≤ w5.heap.size := Nat.le_trans zl hb5.size))
  obtain ⟨y, ey, cs, fzy, sz, hbel, hon⟩ := over3 (.int .i64 0) (.int .i64 0) (.slice none 0 0) (g := w.heap.size + 1) v0 v1 v2
  rw [← ey]
  refine bodyPost_ret (results_two rfl _ _ _ [.int .i64 0, .int .i64 0, .slice none 0 0] rfl cs Try.underlying37 rfl (by kernel_rfl)) rfl ?_
  exact ⟨rfl, hbw.trans (hbel _ (by omega))⟩
set_option maxHeartbeats 4000000 in
theorem specQuit_no2 {wd fl id n : Int} {w : World} {a : Option Addr} (cap : Nat) {xs : List Int} (hp : plB wd fl xs = true) (hh : hasI id xs = true) (hn : w10B n = false) (smp : ISmp w.heap.size w a xs) : Calls Try.prog 21 #[.agg #[.int .i64 wd, .int .i64 fl, .slice a xs.length cap], .int .i64 id, .int .i64 n] w fun e w' => e = .returned (.tuple #[.agg #[.int .i64 0, .int .i64 0, .slice none 0 0], .bool false]) ∧ Below w.heap.size w w' := by
  have hl := (pl_num hp).2.2
  go_enter Try.func21, Try.ntmps21
  go_wp2_with (first
    | (go_at_call 49; refine (specPlaceOk_is cap hp (smp.here (by go_grown))).mono ?_; rintro e w3 ⟨rfl, hbw3⟩; have hbw : Below w.heap.size w w3 := below_two (by go_grown) hbw3; have kc := below_cells4 hbw3; have kf := below_frozens4 hbw3; have zl := hbw3.size; (try simp at zl); have p0 : w3.cell? ⟨w.heap.size, 0, none⟩ = some (.int .i64 wd) := (kc _ _ (by simp; try omega)).trans (by go_simp); have p1 : w3.cell? ⟨w.heap.size, 1, none⟩ = some (.int .i64 fl) := (kc _ _ (by simp; try omega)).trans (by go_simp); have p2 : w3.cell? ⟨w.heap.size, 2, none⟩ = some (.slice a xs.length cap) := (kc _ _ (by simp; try omega)).trans (by go_simp); have v0 : w3.cell? ⟨w.heap.size + 1, 0, none⟩ = some (.int .i64 0) := (kc _ _ (by simp; try omega)).trans (by go_simp); have v1 : w3.cell? ⟨w.heap.size + 1, 1, none⟩ = some (.int .i64 0) := (kc _ _ (by simp; try omega)).trans (by go_simp); have v2 : w3.cell? ⟨w.heap.size + 1, 2, none⟩ = some (.slice none 0 0) := (kc _ _ (by simp; try omega)).trans (by go_simp); have vz : ∀ o : Nat, w3.frozen? ⟨w.heap.size + 1, o, none⟩ = false := (fun o => (kf _ _ (by simp; try omega)).trans (by go_simp)); clear kc kf)
    | (go_at_call 51; refine (has_is cap hh hl (smp.here hbw)).mono ?_; rintro e w5 ⟨rfl, hb5⟩; have hbw : Below w.heap.size w w5 := below_two hbw hb5; have p0 := (hb5.cell (p := ⟨w.heap.size, 0, none⟩) (by show w.heap.size < _; omega)).trans p0; have p1 := (hb5.cell (p := ⟨w.heap.size, 1, none⟩) (by show w.heap.size < _; omega)).trans p1; have p2 := (hb5.cell (p := ⟨w.heap.size, 2, none⟩) (by show w.heap.size < _; omega)).trans p2; have v0 := (hb5.cell (p := ⟨w.heap.size + 1, 0, none⟩) (by show w.heap.size + 1 < _; omega)).trans v0; have v1 := (hb5.cell (p := ⟨w.heap.size + 1, 1, none⟩) (by show w.heap.size + 1 < _; omega)).trans v1; have v2 := (hb5.cell (p := ⟨w.heap.size + 1, 2, none⟩) (by show w.heap.size + 1 < _; omega)).trans v2; have vz : ∀ o : Nat, w5.frozen? ⟨w.heap.size + 1, o, none⟩ = false := fun o => (hb5.frozen (p := ⟨w.heap.size + 1, o, none⟩) (by show w.heap.size + 1 < _; omega)).trans (vz o); have zl : w.heap.size + 1 + 1 ≤ w5.heap.size := Nat.le_trans zl hb5.size)
    | (go_at_call 58; refine (sWin_is hn _).mono ?_; rintro e w4 ⟨rfl, rfl⟩))
  obtain ⟨y, ey, cs, fzy, sz, hbel, hon⟩ := over3 (.int .i64 0) (.int .i64 0) (.slice none 0 0) (g := w.heap.size + 1) v0 v1 v2
  rw [← ey]
  refine bodyPost_ret (results_two rfl _ _ _ [.int .i64 0, .int .i64 0, .slice none 0 0] rfl cs Try.underlying37 rfl (by kernel_rfl)) rfl ?_
  exact ⟨rfl, hbw.trans (hbel _ (by omega))⟩
/-- Without an Id. -/
def delI (xs : List Int) (id : Int) : List Int := xs.filter fun y => !decide (y = id)
def delTo (xs : List Int) (id : Int) (k : Nat) : List Int := (xs.take k).filter fun y => !decide (y = id)
theorem del_yes {id : Int} {xs : List Int} {k : Nat} (h : k < xs.length) (hk : ¬ xs[k] = id) : delTo xs id (k + 1) = delTo xs id k ++ [xs[k]] := by
  unfold delTo
  rw [List.take_succ_eq_append_getElem h, List.filter_append]
  simp [hk]
theorem del_no {id : Int} {xs : List Int} {k : Nat} (h : k < xs.length) (hk : xs[k] = id) : delTo xs id (k + 1) = delTo xs id k := by
  unfold delTo
  rw [List.take_succ_eq_append_getElem h, List.filter_append]
  simp [hk]
theorem del_all (id : Int) (xs : List Int) : delTo xs id xs.length = delI xs id := by unfold delTo delI; rw [List.take_length]
theorem del_le (id : Int) (xs : List Int) (k : Nat) : (delTo xs id k).length ≤ xs.length := Nat.le_trans (List.length_filter_le _ _) (by rw [List.length_take]; exact Nat.min_le_right _ _)
theorem w10_num {n : Int} (h : w10B n = true) : 0 ≤ n ∧ n ≤ 1000000000 := by
  unfold w10B at h
  simp only [Bool.and_eq_true, decide_eq_true_eq] at h
  exact h
set_option maxHeartbeats 4000000 in
theorem specQuit_yes {wd fl id n : Int} {w : World} {a : Option Addr} (cap : Nat) {xs : List Int} (hp : plB wd fl xs = true) (hh : hasI id xs = true) (hn : w10B n = true) (smp : ISmp w.heap.size w a xs) : Calls Try.prog 21 #[.agg #[.int .i64 wd, .int .i64 fl, .slice a xs.length cap], .int .i64 id, .int .i64 n] w (AnsPT w (delI xs id) wd (max 0 (fl - n)) true) := by
  have hl := (pl_num hp).2.2
  have hfl := (pl_num hp).2.1
  have hnn := w10_num hn
  obtain ⟨i0, hi, hz0, hz1, hz2⟩ := info_parts info_int
  have r1 : IntKind.i64.wrap (fl - n) = fl - n := by rw [IntKind.wrap_i64]; omega
  obtain ⟨f1, hf1⟩ : ∃ f1 : Int, max 0 (fl - n) = f1 := ⟨_, rfl⟩
  rw [hf1]
  have HM : Hid (∀ w : World, Calls Try.prog 59 #[.int .i64 0, .int .i64 (fl - n)] w fun e w' => e = .returned (.int .i64 f1) ∧ w' = w) := fun w => by rw [← hf1]; exact max10_any 0 (fl - n) w
  clear hf1
  go_enter Try.func21, Try.ntmps21
  go_upto_region 3 with (first
    | (go_at_call 49; refine (specPlaceOk_is cap hp (smp.here (by go_grown))).mono ?_; rintro e w3 ⟨rfl, hbw3⟩; have hbw : Below w.heap.size w w3 := below_two (by go_grown) hbw3; have kc := below_cells4 hbw3; have kf := below_frozens4 hbw3; have zl := hbw3.size; (try simp at zl); have p0 : w3.cell? ⟨w.heap.size, 0, none⟩ = some (.int .i64 wd) := (kc _ _ (by simp; try omega)).trans (by go_simp); have p1 : w3.cell? ⟨w.heap.size, 1, none⟩ = some (.int .i64 fl) := (kc _ _ (by simp; try omega)).trans (by go_simp); have p2 : w3.cell? ⟨w.heap.size, 2, none⟩ = some (.slice a xs.length cap) := (kc _ _ (by simp; try omega)).trans (by go_simp); have v0 : w3.cell? ⟨w.heap.size + 1, 0, none⟩ = some (.int .i64 0) := (kc _ _ (by simp; try omega)).trans (by go_simp); have v1 : w3.cell? ⟨w.heap.size + 1, 1, none⟩ = some (.int .i64 0) := (kc _ _ (by simp; try omega)).trans (by go_simp); have v2 : w3.cell? ⟨w.heap.size + 1, 2, none⟩ = some (.slice none 0 0) := (kc _ _ (by simp; try omega)).trans (by go_simp); have vz : ∀ o : Nat, w3.frozen? ⟨w.heap.size + 1, o, none⟩ = false := (fun o => (kf _ _ (by simp; try omega)).trans (by go_simp)); clear kc kf)
    | (go_at_call 51; refine (has_is cap hh hl (smp.here hbw)).mono ?_; rintro e w5 ⟨rfl, hb5⟩; have hbw : Below w.heap.size w w5 := below_two hbw hb5; have p0 := (hb5.cell (p := ⟨w.heap.size, 0, none⟩) (by show w.heap.size < _; omega)).trans p0; have p1 := (hb5.cell (p := ⟨w.heap.size, 1, none⟩) (by show w.heap.size < _; omega)).trans p1; have p2 := (hb5.cell (p := ⟨w.heap.size, 2, none⟩) (by show w.heap.size < _; omega)).trans p2; have v0 := (hb5.cell (p := ⟨w.heap.size + 1, 0, none⟩) (by show w.heap.size + 1 < _; omega)).trans v0; have v1 := (hb5.cell (p := ⟨w.heap.size + 1, 1, none⟩) (by show w.heap.size + 1 < _; omega)).trans v1; have v2 := (hb5.cell (p := ⟨w.heap.size + 1, 2, none⟩) (by show w.heap.size + 1 < _; omega)).trans v2; have vz : ∀ o : Nat, w5.frozen? ⟨w.heap.size + 1, o, none⟩ = false := fun o => (hb5.frozen (p := ⟨w.heap.size + 1, o, none⟩) (by show w.heap.size + 1 < _; omega)).trans (vz o); have zl : w.heap.size + 1 + 1 ≤ w5.heap.size := Nat.le_trans zl hb5.size)
    | (go_at_call 58; refine (sWin_is hn _).mono ?_; rintro e wM ⟨rfl, hM⟩; have hM := hM.symm; subst hM))
  obtain ⟨q, hq⟩ : ∃ q, q = w5.heap.size := ⟨_, rfl⟩
  have D5 : Below w5.heap.size w5 w5.drew := (Below.refl _ _).drew
  have hS0 : (fun w' => w'.cell? ⟨w.heap.size, 0, none⟩ = some (.int .i64 wd) ∧ w'.cell? ⟨w.heap.size, 1, none⟩ = some (.int .i64 fl)) w5.drew := ⟨by simpa using p0, by simpa using p1⟩
  have J0 : Hid (JSt w q wd fl f1 a xs cap (w5.drew.alloc (.cells #[.int .i64 wd, .int .i64 f1, .slice none 0 0] 37)) (.slice none 0 0) 0 []) := by
    have e5 : Below w5.heap.size w5 (w5.drew.alloc (.cells #[.int .i64 wd, .int .i64 f1, .slice none 0 0] 37)) := by go_grown
    rw [hq]
    exact ⟨⟨(Qc.mk (w := w5) (by omega) p0 p1 p2).next e5, (Qc.mk (w := w5) (by omega) v0 v1 v2).next e5, ⟨by simp, by go_simp, by go_simp, by go_simp⟩, fun k => (e5.frozen (p := ⟨w.heap.size + 1, k, none⟩) (by show w.heap.size + 1 < _; omega)).trans (vz k), fun k => by go_simp, below_two hbw e5, by omega⟩, World.ownsRow_nil _ _ _ _⟩
  have HQ : Hid (q = w5.heap.size) := hq
  clear hq
  go_cut [8] from 25 to 32 (fun s wc => s = .pointer (some ⟨q, 0, none⟩) ∧ wc = w5.drew.alloc (.cells #[.int .i64 wd, .int .i64 f1, .slice none 0 0] 37))
  case first =>
    have hS1 : (fun w' => w'.cell? ⟨w.heap.size, 0, none⟩ = some (.int .i64 wd) ∧ w'.cell? ⟨w.heap.size, 1, none⟩ = some (.int .i64 fl)) (w5.drew.alloc (.cells #[.int .i64 0, .int .i64 0, .slice none 0 0] 37)) := ⟨by have h := below_cells (w := w5) (w' := w5.drew.alloc (.cells #[.int .i64 0, .int .i64 0, .slice none 0 0] 37)) (by go_grown); exact (h _ _ (by omega)).trans p0, by have h := below_cells (w := w5) (w' := w5.drew.alloc (.cells #[.int .i64 0, .int .i64 0, .slice none 0 0] 37)) (by go_grown); exact (h _ _ (by omega)).trans p1⟩
    refine region_late (S := fun w' => w'.cell? ⟨w.heap.size, 0, none⟩ = some (.int .i64 wd) ∧ w'.cell? ⟨w.heap.size, 1, none⟩ = some (.int .i64 fl)) 9 (by kernel_rfl) (hS0) (fun hS => ?_)
    refine late_take (i := 0) (v := ?_) rfl (by kernel_rfl) (by kernel_rfl) (by kernel_rfl) (by kernel_rfl) (fun _ _ _ h => h) (Or.inl ⟨by rfl, ?_⟩) (by assumption) ?_
    rotate_left 1
    · (intro w' hSw; (try dsimp only at hSw); go_simp; try with_reducible rfl)
    try simp only [Act.put, List.setIfInBounds_toArray, List.set_cons_zero, List.set_cons_succ, List.getElem_toArray, List.getElem_cons_succ, List.getElem_cons_zero]
    refine late_take (i := 1) (v := ?_) rfl (by kernel_rfl) (by kernel_rfl) (by kernel_rfl) (by kernel_rfl) (fun _ _ _ h => h) (Or.inl ⟨by rfl, ?_⟩) (by assumption) ?_
    rotate_left 1
    · (intro w' hSw; (try dsimp only at hSw); go_simp; try with_reducible rfl)
    try simp only [Act.put, List.setIfInBounds_toArray, List.set_cons_zero, List.set_cons_succ, List.getElem_toArray, List.getElem_cons_succ, List.getElem_cons_zero]
    refine late_take (i := 2) (v := ?_) rfl (by kernel_rfl) (by kernel_rfl) (by kernel_rfl) (by kernel_rfl) (fun _ _ _ h => h) (Or.inl ⟨by rfl, ?_⟩) (by assumption) ?_
    rotate_left 1
    · (intro w' hSw; (try dsimp only at hSw); go_simp; try with_reducible rfl)
    try simp only [Act.put, List.setIfInBounds_toArray, List.set_cons_zero, List.set_cons_succ, List.getElem_toArray, List.getElem_cons_succ, List.getElem_cons_zero]
    refine late_take (i := 3) (v := ?_) rfl (by kernel_rfl) (by kernel_rfl) (by kernel_rfl) (by kernel_rfl) (fun _ _ _ h => h) (Or.inl ⟨by rfl, ?_⟩) (by assumption) ?_
    rotate_left 1
    · (intro w' hSw; (try dsimp only at hSw); go_simp; try with_reducible rfl)
    try simp only [Act.put, List.setIfInBounds_toArray, List.set_cons_zero, List.set_cons_succ, List.getElem_toArray, List.getElem_cons_succ, List.getElem_cons_zero]
    refine late_take (i := 4) (v := ?_) rfl (by kernel_rfl) (by kernel_rfl) (by kernel_rfl) (by kernel_rfl) (fun _ _ _ h => h) (Or.inl ⟨by rfl, ?_⟩) (by assumption) ?_
    rotate_left 1
    · (intro w' hSw; (try dsimp only at hSw); go_simp; try with_reducible rfl)
    try simp only [Act.put, List.setIfInBounds_toArray, List.set_cons_zero, List.set_cons_succ, List.getElem_toArray, List.getElem_cons_succ, List.getElem_cons_zero]
    refine late_take (i := 5) (v := ?_) rfl (by kernel_rfl) (by kernel_rfl) (by kernel_rfl) (by kernel_rfl) (fun _ _ _ h => h) (Or.inl ⟨by rfl, ?_⟩) (by assumption) ?_
    rotate_left 1
    · (intro w' hSw; (try dsimp only at hSw); go_simp; try with_reducible rfl)
    try simp only [Act.put, List.setIfInBounds_toArray, List.set_cons_zero, List.set_cons_succ, List.getElem_toArray, List.getElem_cons_succ, List.getElem_cons_zero]
    refine late_two (i := 6) (j := 8) (by kernel_rfl) rfl rfl (fun K hK => ?_) (fun K hK => ?_)
    · go_simp
      (refine (HM.out _).mono ?_; rintro e wM ⟨rfl, hM⟩; have hM := hM.symm; subst hM; have hS := hS0)
      refine hK.out _ _ (by assumption) (fun _ => ?_)
      try simp only [Act.put, List.setIfInBounds_toArray, List.set_cons_zero, List.set_cons_succ, List.getElem_toArray, List.getElem_cons_succ, List.getElem_cons_zero]
      refine late_take (i := 7) (v := ?_) rfl (by kernel_rfl) (by kernel_rfl) (by kernel_rfl) (by kernel_rfl) (fun _ _ _ h => h) (Or.inl ⟨by rfl, ?_⟩) (by assumption) ?_
      rotate_left 1
      · (intro w' hSw; (try dsimp only at hSw); go_simp; try with_reducible rfl)
      try simp only [Act.put, List.setIfInBounds_toArray, List.set_cons_zero, List.set_cons_succ, List.getElem_toArray, List.getElem_cons_succ, List.getElem_cons_zero]
      refine late_one (i := 8) (by kernel_rfl) rfl (fun K hK => ?_)
      go_simp
      refine hK.out _ _ (hS1) (fun hS => ?_)
      try simp only [Act.put, List.setIfInBounds_toArray, List.set_cons_zero, List.set_cons_succ, List.getElem_toArray, List.getElem_cons_succ, List.getElem_cons_zero]
      refine late_last (by kernel_rfl) rfl (by kernel_rfl) (fun K hK => ?_)
      go_simp
      refine hK.out _ _ ?_
      try simp only [Act.put, List.setIfInBounds_toArray, List.set_cons_zero, List.set_cons_succ, List.getElem_toArray, List.getElem_cons_succ, List.getElem_cons_zero]
      go_wp2
      go_meet
      exact ⟨by rw [HQ.out], rfl⟩
    · go_simp
      refine hK.out _ _ (hS1) (fun hS => ?_)
      try simp only [Act.put, List.setIfInBounds_toArray, List.set_cons_zero, List.set_cons_succ, List.getElem_toArray, List.getElem_cons_succ, List.getElem_cons_zero]
      refine late_one (i := 6) (by kernel_rfl) rfl (fun K hK => ?_)
      go_simp
      (refine (HM.out _).mono ?_; rintro e wM ⟨rfl, hM⟩; have hM := hM.symm; subst hM; have hS := hS1)
      refine hK.out _ _ (by assumption) (fun _ => ?_)
      try simp only [Act.put, List.setIfInBounds_toArray, List.set_cons_zero, List.set_cons_succ, List.getElem_toArray, List.getElem_cons_succ, List.getElem_cons_zero]
      refine late_take (i := 7) (v := ?_) rfl (by kernel_rfl) (by kernel_rfl) (by kernel_rfl) (by kernel_rfl) (fun _ _ _ h => h) (Or.inl ⟨by rfl, ?_⟩) (by assumption) ?_
      rotate_left 1
      · (intro w' hSw; (try dsimp only at hSw); go_simp; try with_reducible rfl)
      try simp only [Act.put, List.setIfInBounds_toArray, List.set_cons_zero, List.set_cons_succ, List.getElem_toArray, List.getElem_cons_succ, List.getElem_cons_zero]
      refine late_last (by kernel_rfl) rfl (by kernel_rfl) (fun K hK => ?_)
      go_simp
      refine hK.out _ _ ?_
      try simp only [Act.put, List.setIfInBounds_toArray, List.set_cons_zero, List.set_cons_succ, List.getElem_toArray, List.getElem_cons_succ, List.getElem_cons_zero]
      go_wp2
      go_meet
      exact ⟨by rw [HQ.out], rfl⟩
  case rest =>
    obtain ⟨rfl, hwc⟩ := hcut
    rw [← hwc] at J0
    clear hwc hS0 D5 HQ p0 p1 p2 v0 v1 v2 vz
    go_wp2
    go_loopw [9] (fun i wr => ∃ (k : Nat) (ua : Option Addr) (m uc : Nat), i = .int .i64 k ∧ k ≤ xs.length ∧ m = (delTo xs id k).length ∧ JSt w q wd fl f1 a xs cap wr (.slice ua m uc) m (delTo xs id k)) (fun i _ => xs.length - (intOf i).toNat)
    case atStart => exact ⟨0, none, 0, 0, rfl, by omega, rfl, J0.out⟩
    case round =>
      clear J0
      obtain ⟨k, ua, n, uc, rfl, hk, hm, JS⟩ := hrel
      have hle := del_le id xs k
      obtain ⟨ys, hys⟩ : ∃ ys, ys = delTo xs id k := ⟨_, rfl⟩
      have HYS : Hid (ys = delTo xs id k) := hys
      rw [← hys] at JS hm hle
      have HML : Hid (n = ys.length) := hm
      have JJ : Hid (JSt w q wd fl f1 a xs cap wr (.slice ua n uc) n ys) := JS
      have hwr : Below w.heap.size w wr := JS.k.hb
      have hwq := JS.wq
      have hqz := JS.o.z
      have hn50 : n ≤ 50 := by omega
      clear JS hys hm hle
      have s0 : wr.cell? ⟨w.heap.size, 2, none⟩ = some (.slice a xs.length cap) := JJ.out.k.p.c2
      have s1 : wr.cell? ⟨q, 2, none⟩ = some (.slice ua n uc) := JJ.out.k.o.c2
      have hwz : w.heap.size < wr.heap.size := JJ.out.k.p.z
      by_cases hlt : k < xs.length
      · have hlt' : (k : Int) < (xs.length : Int) := by omega
        obtain ⟨y, hy⟩ : ∃ y, xs[k] = y := ⟨_, rfl⟩
        obtain ⟨b, off, rfl, hb, c0⟩ := smp.at hwr k hlt
        rw [hy] at c0
        by_cases he : y = id
        · have HY : Hid (delTo xs id (k + 1) = ys) := by show _ = _; rw [del_no hlt (hy.trans he), HYS.out]
          subst he
          clear hy
          go_wp2
          go_roundw
          case rel => exact ⟨k + 1, ua, n, uc, by go_num, by omega, by rw [HY.out]; exact HML.out, by rw [HY.out]; exact JJ.out⟩
          case measure => first | (simp [intOf]; done) | (simp [intOf]; omega)
        · have HY : Hid (delTo xs id (k + 1) = ys ++ [y]) := by show _ = _; rw [del_yes hlt (by rw [hy]; exact he), hy, HYS.out]
          have he' : (y == id) = false := beq_eq_false_iff_ne.2 he
          clear hy
          go_wp2
          refine region_late (S := fun w' => w'.cell? ⟨w.heap.size, 2, none⟩ = some (.slice (some ⟨b, off, none⟩) xs.length cap) ∧ w'.cell? ⟨q, 2, none⟩ = some (.slice ua n uc) ∧ w'.cell? ⟨b, off + k, none⟩ = some (.int .i64 y)) 10 (by kernel_rfl) (⟨by go_simp, by go_simp, by go_simp⟩) (fun hS => ?_)
          refine late_take (i := 0) (v := ?_) rfl (by kernel_rfl) (by kernel_rfl) (by kernel_rfl) (by kernel_rfl) (fun _ _ _ h => h) (Or.inl ⟨by rfl, ?_⟩) (by assumption) ?_
          rotate_left 1
          · (intro w' hSw; (try dsimp only at hSw); go_simp; try with_reducible rfl)
          try simp only [Act.put, List.setIfInBounds_toArray, List.set_cons_zero, List.set_cons_succ, List.getElem_toArray, List.getElem_cons_succ, List.getElem_cons_zero]
          refine late_take (i := 1) (v := ?_) rfl (by kernel_rfl) (by kernel_rfl) (by kernel_rfl) (by kernel_rfl) (fun _ _ _ h => h) (Or.inl ⟨by rfl, ?_⟩) (by assumption) ?_
          rotate_left 1
          · (intro w' hSw; (try dsimp only at hSw); go_simp; try with_reducible rfl)
          try simp only [Act.put, List.setIfInBounds_toArray, List.set_cons_zero, List.set_cons_succ, List.getElem_toArray, List.getElem_cons_succ, List.getElem_cons_zero]
          refine late_take (i := 2) (v := ?_) rfl (by kernel_rfl) (by kernel_rfl) (by kernel_rfl) (by kernel_rfl) (fun _ _ _ h => h) (Or.inl ⟨by rfl, ?_⟩) (by assumption) ?_
          rotate_left 1
          · (intro w' hSw; (try dsimp only at hSw); go_simp; try with_reducible rfl)
          try simp only [Act.put, List.setIfInBounds_toArray, List.set_cons_zero, List.set_cons_succ, List.getElem_toArray, List.getElem_cons_succ, List.getElem_cons_zero]
          refine late_take (i := 3) (v := ?_) rfl (by kernel_rfl) (by kernel_rfl) (by kernel_rfl) (by kernel_rfl) (fun _ _ _ h => h) (Or.inl ⟨by rfl, ?_⟩) (by assumption) ?_
          rotate_left 1
          · (intro w' hSw; (try dsimp only at hSw); go_simp; try with_reducible rfl)
          try simp only [Act.put, List.setIfInBounds_toArray, List.set_cons_zero, List.set_cons_succ, List.getElem_toArray, List.getElem_cons_succ, List.getElem_cons_zero]
          refine late_take (i := 4) (v := ?_) rfl (by kernel_rfl) (by kernel_rfl) (by kernel_rfl) (by kernel_rfl) (fun _ _ _ h => h) (Or.inl ⟨by rfl, ?_⟩) (by assumption) ?_
          rotate_left 1
          · (intro w' hSw; (try dsimp only at hSw); go_simp; try with_reducible rfl)
          try simp only [Act.put, List.setIfInBounds_toArray, List.set_cons_zero, List.set_cons_succ, List.getElem_toArray, List.getElem_cons_succ, List.getElem_cons_zero]
          refine late_take (i := 5) (v := ?_) rfl (by kernel_rfl) (by kernel_rfl) (by kernel_rfl) (by kernel_rfl) (fun _ _ _ h => h) (Or.inl ⟨by rfl, ?_⟩) (by assumption) ?_
          rotate_left 1
          · (intro w' hSw; (try dsimp only at hSw); go_simp; try with_reducible rfl)
          try simp only [Act.put, List.setIfInBounds_toArray, List.set_cons_zero, List.set_cons_succ, List.getElem_toArray, List.getElem_cons_succ, List.getElem_cons_zero]
          refine late_take (i := 6) (v := ?_) rfl (by kernel_rfl) (by kernel_rfl) (by kernel_rfl) (by kernel_rfl) (fun _ _ _ h => h) (Or.inl ⟨by rfl, ?_⟩) (by assumption) ?_
          rotate_left 1
          · (intro w' hSw; (try dsimp only at hSw); go_simp; try with_reducible rfl)
          try simp only [Act.put, List.setIfInBounds_toArray, List.set_cons_zero, List.set_cons_succ, List.getElem_toArray, List.getElem_cons_succ, List.getElem_cons_zero]
          refine late_one (i := 7) (by kernel_rfl) rfl (fun K hK => ?_)
          go_simp
          refine hK.out _ _ (have k' := below_cells (w := wr) (w' := (wr.drew.alloc (.cells #[.int .i64 y] 2))) (by go_grown); ⟨(k' _ _ (by omega)).trans s0, (k' _ _ (by omega)).trans s1, (k' _ _ (by have := hwr.size; omega)).trans c0⟩) (fun hS => ?_)
          try simp only [Act.put, List.setIfInBounds_toArray, List.set_cons_zero, List.set_cons_succ, List.getElem_toArray, List.getElem_cons_succ, List.getElem_cons_zero]
          refine late_one (i := 8) (by kernel_rfl) rfl (fun K hK => ?_)
          rw [if_pos (by rfl)]
          refine wp_append_own _ _ _ 35 rfl (q + 1) 2 i0 _ 1 8 Try.underlying35 hi hz0 hz1 hz2 rfl (by decide) _ _ _ rfl (JJ.out.own.drew.alloc _) ⟨wr.heap.size, 0, none⟩ 1 1 [.int .i64 y] rfl rfl (one_news (by go_simp)) (fun u hu => by rw [List.mem_singleton] at hu; subst hu; rfl) (by unfold maxLen; omega) (by omega) (by have := JJ.out.o.z; simp; omega) ?_
          intro v1 wx hown1 hgr1 hnil1
          obtain ⟨a1, c1', rfl⟩ := own_slice hown1
          have hno : OnlyO (Value.slice ua n uc).ownBlock wr wx := OnlyO.trans (OnlyO.of_below (by go_grown)) (OnlyO.of_grown hgr1)
          have J1 := JJ.out.k.onlyO hno (fun g e' => by have := (JJ.out.own.lt g e').1; omega)
          have JF : Hid (JSt w q wd fl f1 (some ⟨b, off, none⟩) xs cap (wx.setCell ⟨q, 2, none⟩ (.slice a1 (n + 1) c1')) (.slice a1 (n + 1) c1') (n + 1) (ys ++ [y])) := JK.put J1 (by rw [flatI_append]; exact hown1)
          have hx1 := hno.size
          have s0x := J1.p.c2
          have s1x := J1.o.c2
          have s2x := J1.of
          refine hK.out _ _ ⟨s0x, s1x, (hno.cell (p := ⟨b, off + k, none⟩) (by show b < _; have := hwr.size; omega) (fun e' => by have h1 := (JJ.out.own.lt _ e').1; have h2 := JJ.out.wq; change q + 1 ≤ b at h1; omega)).trans c0⟩ (fun hS => ?_)
          try simp only [Act.put, List.setIfInBounds_toArray, List.set_cons_zero, List.set_cons_succ, List.getElem_toArray, List.getElem_cons_succ, List.getElem_cons_zero]
          refine late_take (i := 9) (v := ?_) rfl (by kernel_rfl) (by kernel_rfl) (by kernel_rfl) (by kernel_rfl) (fun _ _ _ h => h) (Or.inl ⟨by rfl, ?_⟩) (by assumption) ?_
          rotate_left 1
          · (intro w' hSw; (try dsimp only at hSw); go_simp; try with_reducible rfl)
          try simp only [Act.put, List.setIfInBounds_toArray, List.set_cons_zero, List.set_cons_succ, List.getElem_toArray, List.getElem_cons_succ, List.getElem_cons_zero]
          refine late_last (by kernel_rfl) rfl (by kernel_rfl) (fun K hK => ?_)
          go_simp
          refine hK.out _ _ ?_
          try simp only [Act.put, List.setIfInBounds_toArray, List.set_cons_zero, List.set_cons_succ, List.getElem_toArray, List.getElem_cons_succ, List.getElem_cons_zero]
          obtain ⟨x9, hx9⟩ : ∃ x, x = wx.setCell ⟨q, 2, none⟩ (.slice a1 (n + 1) c1') := ⟨_, rfl⟩
          rw [← hx9] at JF ⊢
          clear hx9
          go_wp2
          go_roundw
          case rel => exact ⟨k + 1, a1, n + 1, c1', by go_num, by omega, by rw [HY.out, List.length_append, HML.out]; rfl, by rw [HY.out]; exact JF.out⟩
          case measure => first | (simp [intOf]; done) | (simp [intOf]; omega)
      · have e : k = xs.length := by omega
        subst e
        rw [del_all] at HYS
        have v0 := JJ.out.k.r.c0
        have v1 := JJ.out.k.r.c1
        have v2 := JJ.out.k.r.c2
        have vz := JJ.out.k.rf
        have o0 := JJ.out.k.o.c0
        have o1 := JJ.out.k.o.c1
        have ow9 := JJ.out.own
        have iv9 : IV wr (q + 1) (.slice ua n uc) ys := own_intsN HML.out ow9
        go_wp2
        obtain ⟨y9, ey, cs, fzy, sz, hbel, hon⟩ := over3 (.int .i64 wd) (.int .i64 f1) (.slice ua n uc) (w := wr) (g := w.heap.size + 1) v0 v1 v2
        rw [← ey]
        refine bodyPost_ret (results_two rfl _ _ _ [.int .i64 wd, .int .i64 f1, .slice ua n uc] rfl cs Try.underlying37 rfl (by kernel_rfl)) rfl ?_
        rw [← HYS.out]
        exact ⟨_, _, _, rfl, (iv9.onlyO (OnlyO.of_only hon) (fun g hg e => by have := (iv9.own hg).1; injection e with e; omega)).lower (by omega), hwr.trans (hbel _ (by omega))⟩
end Go.Proofs.Ytoeiheccmpjclaf

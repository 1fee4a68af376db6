/- What spec's Claim and Free answer. -/
import Derived.Test.YtoeiheccmpjclafSpecPlc2
namespace Go.Proofs.Ytoeiheccmpjclaf
open Go.ChangeShapes Go.WideShapes Go.ChangeAt Go.RowKit
set_option maxRecDepth 100000
set_option linter.unusedVariables false
set_option linter.unusedSimpArgs false

def AnsPT (w : World) (xs : List Int) (wd fl : Int) (f : Bool) (e : Ending) (w' : World) : Prop := ∃ a n c, e = .returned (.tuple #[.agg #[.int .i64 wd, .int .i64 fl, .slice a n c], .bool f]) ∧ IV w' w.heap.size (.slice a n c) xs ∧ Below w.heap.size w w'
set_option maxHeartbeats 4000000 in
theorem specClaim_no {wd fl n : Int} {w : World} {a : Option Addr} (cap : Nat) {xs : List Int} (hr : roomB wd fl n xs = false) (smp : ISmp w.heap.size w a xs) : Calls Try.prog 26 #[.agg #[.int .i64 wd, .int .i64 fl, .slice a xs.length cap], .int .i64 n] w fun e w' => e = .returned (.tuple #[.agg #[.int .i64 0, .int .i64 0, .slice none 0 0], .bool false]) ∧ Below w.heap.size w w' := by
  go_enter Try.func26, Try.ntmps26
  go_wp2_with (first
    | (go_at_call 64; refine (specRoom_is cap hr (smp.here (by go_grown))).mono ?_; rintro e w3 ⟨rfl, hbw3⟩; have hbw : Below w.heap.size w w3 := below_two (by go_grown) hbw3; have kc := below_cells4 hbw3; have kf := below_frozens4 hbw3; have zl := hbw3.size; (try simp at zl); have p0 : w3.cell? ⟨w.heap.size, 0, none⟩ = some (.int .i64 wd) := (kc _ _ (by simp; try omega)).trans (by go_simp); have p1 : w3.cell? ⟨w.heap.size, 1, none⟩ = some (.int .i64 fl) := (kc _ _ (by simp; try omega)).trans (by go_simp); have p2 : w3.cell? ⟨w.heap.size, 2, none⟩ = some (.slice a xs.length cap) := (kc _ _ (by simp; try omega)).trans (by go_simp); have v0 : w3.cell? ⟨w.heap.size + 1, 0, none⟩ = some (.int .i64 0) := (kc _ _ (by simp; try omega)).trans (by go_simp); have v1 : w3.cell? ⟨w.heap.size + 1, 1, none⟩ = some (.int .i64 0) := (kc _ _ (by simp; try omega)).trans (by go_simp); have v2 : w3.cell? ⟨w.heap.size + 1, 2, none⟩ = some (.slice none 0 0) := (kc _ _ (by simp; try omega)).trans (by go_simp); have vz : ∀ o : Nat, w3.frozen? ⟨w.heap.size + 1, o, none⟩ = false := (fun o => (kf _ _ (by simp; try omega)).trans (by go_simp)); clear kc kf))
  obtain ⟨y, ey, cs, fzy, sz, hbel, hon⟩ := over3 (.int .i64 0) (.int .i64 0) (.slice none 0 0) (g := w.heap.size + 1) v0 v1 v2
  rw [← ey]
  refine bodyPost_ret (results_two rfl _ _ _ [.int .i64 0, .int .i64 0, .slice none 0 0] rfl cs Try.underlying37 rfl (by kernel_rfl)) rfl ?_
  exact ⟨rfl, hbw.trans (hbel _ (by omega))⟩
theorem room_num {wd fl n : Int} {xs : List Int} (h : roomB wd fl n xs = true) : plB wd fl xs = true ∧ s10B n = true ∧ fl + n ≤ wd := by
  unfold roomB at h
  simp only [Bool.and_eq_true, decide_eq_true_eq] at h
  exact ⟨h.1.1, h.1.2, h.2⟩
set_option maxHeartbeats 4000000 in
theorem specClaim_yes {wd fl n : Int} {w : World} {a : Option Addr} (cap : Nat) {xs : List Int} (hr : roomB wd fl n xs = true) (smp : ISmp w.heap.size w a xs) : Calls Try.prog 26 #[.agg #[.int .i64 wd, .int .i64 fl, .slice a xs.length cap], .int .i64 n] w (AnsPT w xs wd (fl + n) true) := by
  obtain ⟨hp, hn, hle⟩ := room_num hr
  obtain ⟨⟨q1, q2⟩, ⟨q3, q4⟩, q5⟩ := pl_num hp
  obtain ⟨q6, q7⟩ := s10_num hn
  have r1 : IntKind.i64.wrap (fl + n) = fl + n := by rw [IntKind.wrap_i64]; omega
  go_enter Try.func26, Try.ntmps26
  go_upto_region 4 with (first
    | (go_at_call 64; refine (specRoom_is cap hr (smp.here (by go_grown))).mono ?_; rintro e w3 ⟨rfl, hbw3⟩; have hbw : Below w.heap.size w w3 := below_two (by go_grown) hbw3; have kc := below_cells4 hbw3; have kf := below_frozens4 hbw3; have zl := hbw3.size; (try simp at zl); have p0 : w3.cell? ⟨w.heap.size, 0, none⟩ = some (.int .i64 wd) := (kc _ _ (by simp; try omega)).trans (by go_simp); have p1 : w3.cell? ⟨w.heap.size, 1, none⟩ = some (.int .i64 fl) := (kc _ _ (by simp; try omega)).trans (by go_simp); have p2 : w3.cell? ⟨w.heap.size, 2, none⟩ = some (.slice a xs.length cap) := (kc _ _ (by simp; try omega)).trans (by go_simp); have v0 : w3.cell? ⟨w.heap.size + 1, 0, none⟩ = some (.int .i64 0) := (kc _ _ (by simp; try omega)).trans (by go_simp); have v1 : w3.cell? ⟨w.heap.size + 1, 1, none⟩ = some (.int .i64 0) := (kc _ _ (by simp; try omega)).trans (by go_simp); have v2 : w3.cell? ⟨w.heap.size + 1, 2, none⟩ = some (.slice none 0 0) := (kc _ _ (by simp; try omega)).trans (by go_simp); have vz : ∀ o : Nat, w3.frozen? ⟨w.heap.size + 1, o, none⟩ = false := (fun o => (kf _ _ (by simp; try omega)).trans (by go_simp)); clear kc kf)
    | (go_at_call 65; refine (l13Copy_any cap (by omega) (smp.here hbw)).mono ?_; rintro e w5 ⟨a5, n5, c5, rfl, iv5, hb5⟩; have z3 := zl; have hbw : Below w.heap.size w w5 := below_two hbw hb5; have p0 := (hb5.cell (p := ⟨w.heap.size, 0, none⟩) (by show w.heap.size < _; omega)).trans p0; have p1 := (hb5.cell (p := ⟨w.heap.size, 1, none⟩) (by show w.heap.size < _; omega)).trans p1; have p2 := (hb5.cell (p := ⟨w.heap.size, 2, none⟩) (by show w.heap.size < _; omega)).trans p2; have v0 := (hb5.cell (p := ⟨w.heap.size + 1, 0, none⟩) (by show w.heap.size + 1 < _; omega)).trans v0; have v1 := (hb5.cell (p := ⟨w.heap.size + 1, 1, none⟩) (by show w.heap.size + 1 < _; omega)).trans v1; have v2 := (hb5.cell (p := ⟨w.heap.size + 1, 2, none⟩) (by show w.heap.size + 1 < _; omega)).trans v2; have vz : ∀ o : Nat, w5.frozen? ⟨w.heap.size + 1, o, none⟩ = false := fun o => (hb5.frozen (p := ⟨w.heap.size + 1, o, none⟩) (by show w.heap.size + 1 < _; omega)).trans (vz o); have zl : w.heap.size + 1 + 1 ≤ w5.heap.size := Nat.le_trans zl hb5.size))
  obtain ⟨x6, hx6⟩ : ∃ x, x = w5.alloc (.cells #[.int .i64 wd, .int .i64 fl, .slice a5 n5 c5] 37) := ⟨_, rfl⟩
  obtain ⟨q, hq⟩ : ∃ b, b = w5.heap.size := ⟨_, rfl⟩
  rw [← hx6, ← hq]
  have hb6 : Below w5.heap.size w5 x6 := by rw [hx6]; exact new_below _ _
  have q0 : x6.cell? ⟨q, 0, none⟩ = some (.int .i64 wd) := by rw [hx6, hq]; go_simp
  have q1 : x6.cell? ⟨q, 1, none⟩ = some (.int .i64 fl) := by rw [hx6, hq]; go_simp
  have q2 : x6.cell? ⟨q, 2, none⟩ = some (.slice a5 n5 c5) := by rw [hx6, hq]; go_simp
  have qz : ∀ o : Nat, x6.frozen? ⟨q, o, none⟩ = false := fun o => by rw [hx6, hq]; go_simp
  have yq : w5.heap.size ≤ q := by omega
  have uq : q < x6.heap.size := by rw [hx6, hq]; simp
  have iv6 := iv5.next hb6
  have og6 : ∀ g, (Value.slice a5 n5 c5).ownBlock = some g → w.heap.size + 1 < g ∧ g < q := fun g hg => by have := iv5.own hg; omega
  have hbw : Below w.heap.size w x6 := below_two hbw hb6
  have p0 := (hb6.cell (p := ⟨w.heap.size, 0, none⟩) (by show w.heap.size < _; omega)).trans p0
  have p1 := (hb6.cell (p := ⟨w.heap.size, 1, none⟩) (by show w.heap.size < _; omega)).trans p1
  have p2 := (hb6.cell (p := ⟨w.heap.size, 2, none⟩) (by show w.heap.size < _; omega)).trans p2
  have v0 := (hb6.cell (p := ⟨w.heap.size + 1, 0, none⟩) (by show w.heap.size + 1 < _; omega)).trans v0
  have v1 := (hb6.cell (p := ⟨w.heap.size + 1, 1, none⟩) (by show w.heap.size + 1 < _; omega)).trans v1
  have v2 := (hb6.cell (p := ⟨w.heap.size + 1, 2, none⟩) (by show w.heap.size + 1 < _; omega)).trans v2
  have vz : ∀ o : Nat, x6.frozen? ⟨w.heap.size + 1, o, none⟩ = false := fun o => (hb6.frozen (p := ⟨w.heap.size + 1, o, none⟩) (by show w.heap.size + 1 < _; omega)).trans (vz o)
  have zl : w.heap.size + 1 + 1 ≤ x6.heap.size := Nat.le_trans zl hb6.size
  clear hx6 hq
  go_upto_region 5 with (fail)
  obtain ⟨x7, hx7⟩ : ∃ x, x = (x6.setCell ⟨q, 1, none⟩ (.int .i64 (fl + n))) := ⟨_, rfl⟩
  rw [← hx7]
  have oX : Only q x6 x7 := by rw [hx7]; exact ((Only.refl _ x6).setCell (p := ⟨q, 1, none⟩) rfl _)
  have q0 : x7.cell? ⟨q, 0, none⟩ = some (.int .i64 wd) := by rw [hx7]; exact (set_other4 (by decide)).trans q0
  have q1 : x7.cell? ⟨q, 1, none⟩ = some (.int .i64 (fl + n)) := by rw [hx7]; exact set_same4 _ q1
  have q2 : x7.cell? ⟨q, 2, none⟩ = some (.slice a5 n5 c5) := by rw [hx7]; exact (set_other4 (by decide)).trans q2
  have qz : ∀ o : Nat, x7.frozen? ⟨q, o, none⟩ = false := fun o => by rw [hx7]; simpa using qz o
  have p0 := (oX.cell (p := ⟨w.heap.size, 0, none⟩) (by show w.heap.size < _; omega) (by show w.heap.size ≠ q; omega)).trans p0
  have p1 := (oX.cell (p := ⟨w.heap.size, 1, none⟩) (by show w.heap.size < _; omega) (by show w.heap.size ≠ q; omega)).trans p1
  have p2 := (oX.cell (p := ⟨w.heap.size, 2, none⟩) (by show w.heap.size < _; omega) (by show w.heap.size ≠ q; omega)).trans p2
  have v0 := (oX.cell (p := ⟨w.heap.size + 1, 0, none⟩) (by show w.heap.size + 1 < _; omega) (by show w.heap.size + 1 ≠ q; omega)).trans v0
  have v1 := (oX.cell (p := ⟨w.heap.size + 1, 1, none⟩) (by show w.heap.size + 1 < _; omega) (by show w.heap.size + 1 ≠ q; omega)).trans v1
  have v2 := (oX.cell (p := ⟨w.heap.size + 1, 2, none⟩) (by show w.heap.size + 1 < _; omega) (by show w.heap.size + 1 ≠ q; omega)).trans v2
  have vz : ∀ o : Nat, x7.frozen? ⟨w.heap.size + 1, o, none⟩ = false := fun o => (oX.frozen (p := ⟨w.heap.size + 1, o, none⟩) (by show w.heap.size + 1 < _; omega) (by show w.heap.size + 1 ≠ q; omega)).trans (vz o)
  have hbw : Below w.heap.size w x7 := hbw.trans (oX.below (by omega) (by omega))
  have iv7 := iv6.onlyO (OnlyO.of_only oX) (fun g hg e => by have := og6 g hg; injection e with e; omega)
  have zl := Nat.le_trans zl oX.size
  have uq := Nat.lt_of_lt_of_le uq oX.size
  clear hx7 oX
  go_wp2
  obtain ⟨y, ey, cs, fzy, sz, hbel, hon⟩ := over3 (.int .i64 wd) (.int .i64 (fl + n)) (.slice a5 n5 c5) (g := w.heap.size + 1) v0 v1 v2
  rw [← ey]
  refine bodyPost_ret (results_two rfl _ _ _ [.int .i64 wd, .int .i64 (fl + n), .slice a5 n5 c5] rfl cs Try.underlying37 rfl (by kernel_rfl)) rfl ?_
  exact ⟨_, _, _, rfl, (iv7.onlyO (OnlyO.of_only hon) (fun g hg e => by have := (iv7.own hg).1; injection e with e; omega)).lower (by omega), hbw.trans (hbel _ (by omega))⟩
set_option maxHeartbeats 4000000 in
theorem specFree_no0 {wd fl n : Int} {lost : Bool} {w : World} {a : Option Addr} (cap : Nat) {xs : List Int} (hp : plB wd fl xs = false) (smp : ISmp w.heap.size w a xs) : Calls Try.prog 30 #[.agg #[.int .i64 wd, .int .i64 fl, .slice a xs.length cap], .int .i64 n, .bool lost] w fun e w' => e = .returned (.agg #[.int .i64 0, .int .i64 0, .slice none 0 0]) ∧ Below w.heap.size w w' := by
  go_enter Try.func30, Try.ntmps30
  go_wp2_with (first
    | (go_at_call 49; refine (specPlaceOk_is cap hp (smp.here (by go_grown))).mono ?_; rintro e w3 ⟨rfl, hbw3⟩; have hbw : Below w.heap.size w w3 := below_two (by go_grown) hbw3; have kc := below_cells4 hbw3; have kf := below_frozens4 hbw3; have zl := hbw3.size; (try simp at zl); have p0 : w3.cell? ⟨w.heap.size, 0, none⟩ = some (.int .i64 wd) := (kc _ _ (by simp; try omega)).trans (by go_simp); have p1 : w3.cell? ⟨w.heap.size, 1, none⟩ = some (.int .i64 fl) := (kc _ _ (by simp; try omega)).trans (by go_simp); have p2 : w3.cell? ⟨w.heap.size, 2, none⟩ = some (.slice a xs.length cap) := (kc _ _ (by simp; try omega)).trans (by go_simp); have v0 : w3.cell? ⟨w.heap.size + 1, 0, none⟩ = some (.int .i64 0) := (kc _ _ (by simp; try omega)).trans (by go_simp); have v1 : w3.cell? ⟨w.heap.size + 1, 1, none⟩ = some (.int .i64 0) := (kc _ _ (by simp; try omega)).trans (by go_simp); have v2 : w3.cell? ⟨w.heap.size + 1, 2, none⟩ = some (.slice none 0 0) := (kc _ _ (by simp; try omega)).trans (by go_simp); have vz : ∀ o : Nat, w3.frozen? ⟨w.heap.size + 1, o, none⟩ = false := (fun o => (kf _ _ (by simp; try omega)).trans (by go_simp)); clear kc kf))
  obtain ⟨y, ey, cs, fzy, sz, hbel, hon⟩ := over3 (.int .i64 0) (.int .i64 0) (.slice none 0 0) (g := w.heap.size + 1) v0 v1 v2
  rw [← ey]
  refine bodyPost_ret (results_one rfl _ _ _ [.int .i64 0, .int .i64 0, .slice none 0 0] rfl cs Try.underlying37 rfl (by kernel_rfl)) rfl ?_
  exact ⟨rfl, hbw.trans (hbel _ (by omega))⟩
set_option maxHeartbeats 4000000 in
theorem specFree_no1 {wd fl n : Int} {lost : Bool} {w : World} {a : Option Addr} (cap : Nat) {xs : List Int} (hp : plB wd fl xs = true) (hn : inQ 1 n 1000000000 = false) (smp : ISmp w.heap.size w a xs) : Calls Try.prog 30 #[.agg #[.int .i64 wd, .int .i64 fl, .slice a xs.length cap], .int .i64 n, .bool lost] w fun e w' => e = .returned (.agg #[.int .i64 0, .int .i64 0, .slice none 0 0]) ∧ Below w.heap.size w w' := by
  go_enter Try.func30, Try.ntmps30
  go_wp2_with (first
    | (go_at_call 49; refine (specPlaceOk_is cap hp (smp.here (by go_grown))).mono ?_; rintro e w3 ⟨rfl, hbw3⟩; have hbw : Below w.heap.size w w3 := below_two (by go_grown) hbw3; have kc := below_cells4 hbw3; have kf := below_frozens4 hbw3; have zl := hbw3.size; (try simp at zl); have p0 : w3.cell? ⟨w.heap.size, 0, none⟩ = some (.int .i64 wd) := (kc _ _ (by simp; try omega)).trans (by go_simp); have p1 : w3.cell? ⟨w.heap.size, 1, none⟩ = some (.int .i64 fl) := (kc _ _ (by simp; try omega)).trans (by go_simp); have p2 : w3.cell? ⟨w.heap.size, 2, none⟩ = some (.slice a xs.length cap) := (kc _ _ (by simp; try omega)).trans (by go_simp); have v0 : w3.cell? ⟨w.heap.size + 1, 0, none⟩ = some (.int .i64 0) := (kc _ _ (by simp; try omega)).trans (by go_simp); have v1 : w3.cell? ⟨w.heap.size + 1, 1, none⟩ = some (.int .i64 0) := (kc _ _ (by simp; try omega)).trans (by go_simp); have v2 : w3.cell? ⟨w.heap.size + 1, 2, none⟩ = some (.slice none 0 0) := (kc _ _ (by simp; try omega)).trans (by go_simp); have vz : ∀ o : Nat, w3.frozen? ⟨w.heap.size + 1, o, none⟩ = false := (fun o => (kf _ _ (by simp; try omega)).trans (by go_simp)); clear kc kf)
    | (go_at_call 50; refine (inQ_is hn _).mono ?_; rintro e w4 ⟨rfl, rfl⟩))
  obtain ⟨y, ey, cs, fzy, sz, hbel, hon⟩ := over3 (.int .i64 0) (.int .i64 0) (.slice none 0 0) (g := w.heap.size + 1) v0 v1 v2
  rw [← ey]
  refine bodyPost_ret (results_one rfl _ _ _ [.int .i64 0, .int .i64 0, .slice none 0 0] rfl cs Try.underlying37 rfl (by kernel_rfl)) rfl ?_
  exact ⟨rfl, hbw.trans (hbel _ (by omega))⟩
def freeW (wd n : Int) (lost : Bool) : Int := if lost = true then max 3000 (wd / 2) else min 1000000000 (wd + n * 1500 / wd)
theorem inQ_num {lo x hi : Int} (h : inQ lo x hi = true) : lo ≤ x ∧ x ≤ hi := by
  unfold inQ at h
  simp only [Bool.and_eq_true, decide_eq_true_eq] at h
  exact h
set_option maxHeartbeats 4000000 in
theorem specFree_yes {wd fl n : Int} {lost : Bool} {w : World} {a : Option Addr} (cap : Nat) {xs : List Int} (hp : plB wd fl xs = true) (hn : inQ 1 n 1000000000 = true) (smp : ISmp w.heap.size w a xs) : Calls Try.prog 30 #[.agg #[.int .i64 wd, .int .i64 fl, .slice a xs.length cap], .int .i64 n, .bool lost] w (AnsP w xs (freeW wd n lost) (max 0 (fl - n))) := by
  obtain ⟨⟨q1', q2'⟩, ⟨q3', q4'⟩, q5'⟩ := pl_num hp
  obtain ⟨q6', q7'⟩ := inQ_num hn
  have r1 : IntKind.i64.wrap (fl - n) = fl - n := by rw [IntKind.wrap_i64]; omega
  obtain ⟨f1, hf1⟩ : ∃ z, max 0 (fl - n) = z := ⟨_, rfl⟩
  obtain ⟨w1, hw1⟩ : ∃ z, freeW wd n lost = z := ⟨_, rfl⟩
  rw [hf1, hw1]
  go_enter Try.func30, Try.ntmps30
  go_upto_region 4 with (first
    | (go_at_call 49; refine (specPlaceOk_is cap hp (smp.here (by go_grown))).mono ?_; rintro e w3 ⟨rfl, hbw3⟩; have hbw : Below w.heap.size w w3 := below_two (by go_grown) hbw3; have kc := below_cells4 hbw3; have kf := below_frozens4 hbw3; have zl := hbw3.size; (try simp at zl); have p0 : w3.cell? ⟨w.heap.size, 0, none⟩ = some (.int .i64 wd) := (kc _ _ (by simp; try omega)).trans (by go_simp); have p1 : w3.cell? ⟨w.heap.size, 1, none⟩ = some (.int .i64 fl) := (kc _ _ (by simp; try omega)).trans (by go_simp); have p2 : w3.cell? ⟨w.heap.size, 2, none⟩ = some (.slice a xs.length cap) := (kc _ _ (by simp; try omega)).trans (by go_simp); have v0 : w3.cell? ⟨w.heap.size + 1, 0, none⟩ = some (.int .i64 0) := (kc _ _ (by simp; try omega)).trans (by go_simp); have v1 : w3.cell? ⟨w.heap.size + 1, 1, none⟩ = some (.int .i64 0) := (kc _ _ (by simp; try omega)).trans (by go_simp); have v2 : w3.cell? ⟨w.heap.size + 1, 2, none⟩ = some (.slice none 0 0) := (kc _ _ (by simp; try omega)).trans (by go_simp); have vz : ∀ o : Nat, w3.frozen? ⟨w.heap.size + 1, o, none⟩ = false := (fun o => (kf _ _ (by simp; try omega)).trans (by go_simp)); clear kc kf)
    | (go_at_call 50; refine (inQ_is hn _).mono ?_; rintro e w4 ⟨rfl, rfl⟩)
    | (go_at_call 65; refine (l13Copy_any cap (by omega) (smp.here hbw)).mono ?_; rintro e w5 ⟨a5, n5, c5, rfl, iv5, hb5⟩; have z3 := zl; have hbw : Below w.heap.size w w5 := below_two hbw hb5; have p0 := (hb5.cell (p := ⟨w.heap.size, 0, none⟩) (by show w.heap.size < _; omega)).trans p0; have p1 := (hb5.cell (p := ⟨w.heap.size, 1, none⟩) (by show w.heap.size < _; omega)).trans p1; have p2 := (hb5.cell (p := ⟨w.heap.size, 2, none⟩) (by show w.heap.size < _; omega)).trans p2; have v0 := (hb5.cell (p := ⟨w.heap.size + 1, 0, none⟩) (by show w.heap.size + 1 < _; omega)).trans v0; have v1 := (hb5.cell (p := ⟨w.heap.size + 1, 1, none⟩) (by show w.heap.size + 1 < _; omega)).trans v1; have v2 := (hb5.cell (p := ⟨w.heap.size + 1, 2, none⟩) (by show w.heap.size + 1 < _; omega)).trans v2; have vz : ∀ o : Nat, w5.frozen? ⟨w.heap.size + 1, o, none⟩ = false := fun o => (hb5.frozen (p := ⟨w.heap.size + 1, o, none⟩) (by show w.heap.size + 1 < _; omega)).trans (vz o); have zl : w.heap.size + 1 + 1 ≤ w5.heap.size := Nat.le_trans zl hb5.size))
  obtain ⟨x6, hx6⟩ : ∃ x, x = w5.alloc (.cells #[.int .i64 wd, .int .i64 fl, .slice a5 n5 c5] 37) := ⟨_, rfl⟩
  obtain ⟨q, hq⟩ : ∃ b, b = w5.heap.size := ⟨_, rfl⟩
  rw [← hx6, ← hq]
  have hb6 : Below w5.heap.size w5 x6 := by rw [hx6]; exact new_below _ _
  have q0 : x6.cell? ⟨q, 0, none⟩ = some (.int .i64 wd) := by rw [hx6, hq]; go_simp
  have q1 : x6.cell? ⟨q, 1, none⟩ = some (.int .i64 fl) := by rw [hx6, hq]; go_simp
  have q2 : x6.cell? ⟨q, 2, none⟩ = some (.slice a5 n5 c5) := by rw [hx6, hq]; go_simp
  have qz : ∀ o : Nat, x6.frozen? ⟨q, o, none⟩ = false := fun o => by rw [hx6, hq]; go_simp
  have yq : w5.heap.size ≤ q := by omega
  have uq : q < x6.heap.size := by rw [hx6, hq]; simp
  have iv6 := iv5.next hb6
  have og6 : ∀ g, (Value.slice a5 n5 c5).ownBlock = some g → w.heap.size + 1 < g ∧ g < q := fun g hg => by have := iv5.own hg; omega
  have hbw : Below w.heap.size w x6 := below_two hbw hb6
  have p0 := (hb6.cell (p := ⟨w.heap.size, 0, none⟩) (by show w.heap.size < _; omega)).trans p0
  have p1 := (hb6.cell (p := ⟨w.heap.size, 1, none⟩) (by show w.heap.size < _; omega)).trans p1
  have p2 := (hb6.cell (p := ⟨w.heap.size, 2, none⟩) (by show w.heap.size < _; omega)).trans p2
  have v0 := (hb6.cell (p := ⟨w.heap.size + 1, 0, none⟩) (by show w.heap.size + 1 < _; omega)).trans v0
  have v1 := (hb6.cell (p := ⟨w.heap.size + 1, 1, none⟩) (by show w.heap.size + 1 < _; omega)).trans v1
  have v2 := (hb6.cell (p := ⟨w.heap.size + 1, 2, none⟩) (by show w.heap.size + 1 < _; omega)).trans v2
  have vz : ∀ o : Nat, x6.frozen? ⟨w.heap.size + 1, o, none⟩ = false := fun o => (hb6.frozen (p := ⟨w.heap.size + 1, o, none⟩) (by show w.heap.size + 1 < _; omega)).trans (vz o)
  have zl : w.heap.size + 1 + 1 ≤ x6.heap.size := Nat.le_trans zl hb6.size
  clear hx6 hq
  go_upto_region 5 with (first
    | (go_at_call 59; refine (max10_any 0 (fl - n) _).mono ?_; rintro e wM ⟨rfl, hM⟩; have hM := hM.symm; subst hM; rw [hf1]))
  obtain ⟨x7, hx7⟩ : ∃ x, x = (x6.setCell ⟨q, 1, none⟩ (.int .i64 f1)) := ⟨_, rfl⟩
  rw [← hx7]
  have oX : Only q x6 x7 := by rw [hx7]; exact ((Only.refl _ x6).setCell (p := ⟨q, 1, none⟩) rfl _)
  have q0 : x7.cell? ⟨q, 0, none⟩ = some (.int .i64 wd) := by rw [hx7]; exact (set_other4 (by decide)).trans q0
  have q1 : x7.cell? ⟨q, 1, none⟩ = some (.int .i64 f1) := by rw [hx7]; exact set_same4 _ q1
  have q2 : x7.cell? ⟨q, 2, none⟩ = some (.slice a5 n5 c5) := by rw [hx7]; exact (set_other4 (by decide)).trans q2
  have qz : ∀ o : Nat, x7.frozen? ⟨q, o, none⟩ = false := fun o => by rw [hx7]; simpa using qz o
  have p0 := (oX.cell (p := ⟨w.heap.size, 0, none⟩) (by show w.heap.size < _; omega) (by show w.heap.size ≠ q; omega)).trans p0
  have p1 := (oX.cell (p := ⟨w.heap.size, 1, none⟩) (by show w.heap.size < _; omega) (by show w.heap.size ≠ q; omega)).trans p1
  have p2 := (oX.cell (p := ⟨w.heap.size, 2, none⟩) (by show w.heap.size < _; omega) (by show w.heap.size ≠ q; omega)).trans p2
  have v0 := (oX.cell (p := ⟨w.heap.size + 1, 0, none⟩) (by show w.heap.size + 1 < _; omega) (by show w.heap.size + 1 ≠ q; omega)).trans v0
  have v1 := (oX.cell (p := ⟨w.heap.size + 1, 1, none⟩) (by show w.heap.size + 1 < _; omega) (by show w.heap.size + 1 ≠ q; omega)).trans v1
  have v2 := (oX.cell (p := ⟨w.heap.size + 1, 2, none⟩) (by show w.heap.size + 1 < _; omega) (by show w.heap.size + 1 ≠ q; omega)).trans v2
  have vz : ∀ o : Nat, x7.frozen? ⟨w.heap.size + 1, o, none⟩ = false := fun o => (oX.frozen (p := ⟨w.heap.size + 1, o, none⟩) (by show w.heap.size + 1 < _; omega) (by show w.heap.size + 1 ≠ q; omega)).trans (vz o)
  have hbw : Below w.heap.size w x7 := hbw.trans (oX.below (by omega) (by omega))
  have iv7 := iv6.onlyO (OnlyO.of_only oX) (fun g hg e => by have := og6 g hg; injection e with e; omega)
  have zl := Nat.le_trans zl oX.size
  have uq := Nat.lt_of_lt_of_le uq oX.size
  clear hx7 oX
  cases lost
  · have hw1 : min 1000000000 (wd + n * 1500 / wd) = w1 := hw1
    have p0' : 0 ≤ n * 1500 := by omega
    have ed := tdiv10 (x := n * 1500) p0' wd
    have rw1 : IntKind.i64.wrap (n * 1500) = n * 1500 := by rw [IntKind.wrap_i64]; omega
    have dv : 0 ≤ n * 1500 / wd ∧ n * 1500 / wd ≤ n * 1500 := ⟨Int.ediv_nonneg (by omega) (by omega), Int.ediv_le_self _ (by omega)⟩
    obtain ⟨dz, hdz⟩ : ∃ z, n * 1500 / wd = z := ⟨_, rfl⟩
    rw [hdz] at ed dv hw1
    have rw2 : IntKind.i64.wrap dz = dz := by rw [IntKind.wrap_i64]; omega
    have rw3 : IntKind.i64.wrap (wd + dz) = wd + dz := by rw [IntKind.wrap_i64]; omega
    have wz : ¬ wd = 0 := by omega
    have wz' : (wd == 0) = false := beq_eq_false_iff_ne.2 wz
    have HM : Hid (∀ w : World, Calls Try.prog 69 #[.int .i64 1000000000, .int .i64 (wd + dz)] w fun e w' => e = .returned (.int .i64 w1) ∧ w' = w) := fun w => by rw [← hw1]; exact min10_any 1000000000 (wd + dz) w
    clear hdz hw1
    go_upto_region 7 with (fail)
    have hS0 : (fun w' => w'.cell? ⟨w.heap.size, 0, none⟩ = some (.int .i64 wd) ∧ w'.cell? ⟨w.heap.size, 1, none⟩ = some (.int .i64 fl) ∧ w'.cell? ⟨w.heap.size, 2, none⟩ = some (.slice a xs.length cap)) x7.drew := ⟨(by simpa using p0), (by simpa using p1), (by simpa using p2)⟩
    have D7 : Below x7.heap.size x7 x7.drew := (Below.refl _ _).drew
    refine region_late (S := fun w' => w'.cell? ⟨w.heap.size, 0, none⟩ = some (.int .i64 wd) ∧ w'.cell? ⟨w.heap.size, 1, none⟩ = some (.int .i64 fl) ∧ w'.cell? ⟨w.heap.size, 2, none⟩ = some (.slice a xs.length cap)) 10 (by kernel_rfl) hS0 (fun hS => ?_)
    refine late_take (i := 0) (v := ?_) rfl (by kernel_rfl) (by kernel_rfl) (by kernel_rfl) (by kernel_rfl) (fun _ _ _ h => h) (Or.inl ⟨by rfl, ?_⟩) (by assumption) ?_
    rotate_left 1
    · (intro w' hSw; (try dsimp only at hSw); go_simp; try with_reducible rfl)
    try simp only [Act.put, List.setIfInBounds_toArray, List.set_cons_zero, List.set_cons_succ, List.getElem_toArray, List.getElem_cons_succ, List.getElem_cons_zero]
    refine late_take (i := 1) (v := ?_) rfl (by kernel_rfl) (by kernel_rfl) (by kernel_rfl) (by kernel_rfl) (fun _ _ _ h => h) (Or.inl ⟨by rfl, ?_⟩) (by assumption) ?_
    rotate_left 1
    · (intro w' hSw; (try dsimp only at hSw); go_simp; try with_reducible rfl)
    try simp only [Act.put, List.setIfInBounds_toArray, List.set_cons_zero, List.set_cons_succ, List.getElem_toArray, List.getElem_cons_succ, List.getElem_cons_zero]
    refine late_take (i := 2) (v := ?_) rfl (by kernel_rfl) (by kernel_rfl) (by kernel_rfl) (by kernel_rfl) (fun _ _ _ h => h) (Or.inl ⟨by rfl, ?_⟩) (by assumption) ?_
    rotate_left 1
    · (intro w' hSw; (try dsimp only at hSw); go_simp; try with_reducible rfl)
    try simp only [Act.put, List.setIfInBounds_toArray, List.set_cons_zero, List.set_cons_succ, List.getElem_toArray, List.getElem_cons_succ, List.getElem_cons_zero]
    refine late_take (i := 3) (v := ?_) rfl (by kernel_rfl) (by kernel_rfl) (by kernel_rfl) (by kernel_rfl) (fun _ _ _ h => h) (Or.inl ⟨by rfl, ?_⟩) (by assumption) ?_
    rotate_left 1
    · (intro w' hSw; (try dsimp only at hSw); go_simp; try with_reducible rfl)
    try simp only [Act.put, List.setIfInBounds_toArray, List.set_cons_zero, List.set_cons_succ, List.getElem_toArray, List.getElem_cons_succ, List.getElem_cons_zero]
    refine late_take (i := 4) (v := ?_) rfl (by kernel_rfl) (by kernel_rfl) (by kernel_rfl) (by kernel_rfl) (fun _ _ _ h => h) (Or.inl ⟨by rfl, ?_⟩) (by assumption) ?_
    rotate_left 1
    · (intro w' hSw; (try dsimp only at hSw); go_simp; try with_reducible rfl)
    try simp only [Act.put, List.setIfInBounds_toArray, List.set_cons_zero, List.set_cons_succ, List.getElem_toArray, List.getElem_cons_succ, List.getElem_cons_zero]
    refine late_take (i := 5) (v := ?_) rfl (by kernel_rfl) (by kernel_rfl) (by kernel_rfl) (by kernel_rfl) (fun _ _ _ h => h) (Or.inl ⟨by rfl, ?_⟩) (by assumption) ?_
    rotate_left 1
    · (intro w' hSw; (try dsimp only at hSw); go_simp; try with_reducible rfl)
    try simp only [Act.put, List.setIfInBounds_toArray, List.set_cons_zero, List.set_cons_succ, List.getElem_toArray, List.getElem_cons_succ, List.getElem_cons_zero]
    refine late_take (i := 6) (v := ?_) rfl (by kernel_rfl) (by kernel_rfl) (by kernel_rfl) (by kernel_rfl) (fun _ _ _ h => h) (Or.inl ⟨by rfl, ?_⟩) (by assumption) ?_
    rotate_left 1
    · (intro w' hSw; (try dsimp only at hSw); go_simp; try with_reducible rfl)
    try simp only [Act.put, List.setIfInBounds_toArray, List.set_cons_zero, List.set_cons_succ, List.getElem_toArray, List.getElem_cons_succ, List.getElem_cons_zero]
    refine late_take (i := 7) (v := ?_) rfl (by kernel_rfl) (by kernel_rfl) (by kernel_rfl) (by kernel_rfl) (fun _ _ _ h => h) (Or.inl ⟨by rfl, ?_⟩) (by assumption) ?_
    rotate_left 1
    · (intro w' hSw; (try dsimp only at hSw); go_simp; try with_reducible rfl)
    try simp only [Act.put, List.setIfInBounds_toArray, List.set_cons_zero, List.set_cons_succ, List.getElem_toArray, List.getElem_cons_succ, List.getElem_cons_zero]
    refine late_one (i := 8) (by kernel_rfl) rfl (fun K hK => ?_)
    go_simp
    (refine (HM.out _).mono ?_; rintro e wM ⟨rfl, hM⟩; have hM := hM.symm; subst hM; have hS := hS0)
    refine hK.out _ _ (by assumption) (fun _ => ?_)
    try simp only [Act.put, List.setIfInBounds_toArray, List.set_cons_zero, List.set_cons_succ, List.getElem_toArray, List.getElem_cons_succ, List.getElem_cons_zero]
    refine late_one (i := 9) (by kernel_rfl) rfl (fun K hK => ?_)
    go_simp
    refine hK.out _ _ (by assumption) (fun _ => ?_)
    try simp only [Act.put, List.setIfInBounds_toArray, List.set_cons_zero, List.set_cons_succ, List.getElem_toArray, List.getElem_cons_succ, List.getElem_cons_zero]
    refine late_last (by kernel_rfl) rfl (by kernel_rfl) (fun K hK => ?_)
    go_simp
    refine hK.out _ _ ?_
    try simp only [Act.put, List.setIfInBounds_toArray, List.set_cons_zero, List.set_cons_succ, List.getElem_toArray, List.getElem_cons_succ, List.getElem_cons_zero]
    obtain ⟨x8, hx7⟩ : ∃ x, x = (x7.setCell ⟨q, 0, none⟩ (.int .i64 w1)).drew := ⟨_, rfl⟩
    rw [← hx7]
    have oX : Only q x7 x8 := by rw [hx7]; exact ((Only.refl _ x7).setCell (p := ⟨q, 0, none⟩) rfl _).trans (Only.of_below (Below.refl _ _).drew)
    have q0 : x8.cell? ⟨q, 0, none⟩ = some (.int .i64 w1) := by rw [hx7]; simp only [World.cell?_drew]; exact set_same4 _ q0
    have q1 : x8.cell? ⟨q, 1, none⟩ = some (.int .i64 f1) := by rw [hx7]; simp only [World.cell?_drew]; exact (set_other4 (by decide)).trans q1
    have q2 : x8.cell? ⟨q, 2, none⟩ = some (.slice a5 n5 c5) := by rw [hx7]; simp only [World.cell?_drew]; exact (set_other4 (by decide)).trans q2
    have qz : ∀ o : Nat, x8.frozen? ⟨q, o, none⟩ = false := fun o => by rw [hx7]; simpa using qz o
    have p0 := (oX.cell (p := ⟨w.heap.size, 0, none⟩) (by show w.heap.size < _; omega) (by show w.heap.size ≠ q; omega)).trans p0
    have p1 := (oX.cell (p := ⟨w.heap.size, 1, none⟩) (by show w.heap.size < _; omega) (by show w.heap.size ≠ q; omega)).trans p1
    have p2 := (oX.cell (p := ⟨w.heap.size, 2, none⟩) (by show w.heap.size < _; omega) (by show w.heap.size ≠ q; omega)).trans p2
    have v0 := (oX.cell (p := ⟨w.heap.size + 1, 0, none⟩) (by show w.heap.size + 1 < _; omega) (by show w.heap.size + 1 ≠ q; omega)).trans v0
    have v1 := (oX.cell (p := ⟨w.heap.size + 1, 1, none⟩) (by show w.heap.size + 1 < _; omega) (by show w.heap.size + 1 ≠ q; omega)).trans v1
    have v2 := (oX.cell (p := ⟨w.heap.size + 1, 2, none⟩) (by show w.heap.size + 1 < _; omega) (by show w.heap.size + 1 ≠ q; omega)).trans v2
    have vz : ∀ o : Nat, x8.frozen? ⟨w.heap.size + 1, o, none⟩ = false := fun o => (oX.frozen (p := ⟨w.heap.size + 1, o, none⟩) (by show w.heap.size + 1 < _; omega) (by show w.heap.size + 1 ≠ q; omega)).trans (vz o)
    have hbw : Below w.heap.size w x8 := hbw.trans (oX.below (by omega) (by omega))
    have iv8 := iv7.onlyO (OnlyO.of_only oX) (fun g hg e => by have := og6 g hg; injection e with e; omega)
    have zl := Nat.le_trans zl oX.size
    have uq := Nat.lt_of_lt_of_le uq oX.size
    clear hx7 oX
    go_wp2
    obtain ⟨y, ey, cs, fzy, sz, hbel, hon⟩ := over3 (.int .i64 w1) (.int .i64 f1) (.slice a5 n5 c5) (g := w.heap.size + 1) v0 v1 v2
    rw [← ey]
    refine bodyPost_ret (results_one rfl _ _ _ [.int .i64 w1, .int .i64 f1, .slice a5 n5 c5] rfl cs Try.underlying37 rfl (by kernel_rfl)) rfl ?_
    exact ⟨_, _, _, rfl, (iv8.onlyO (OnlyO.of_only hon) (fun g hg e => by have := (iv8.own hg).1; injection e with e; omega)).lower (by omega), hbw.trans (hbel _ (by omega))⟩
  · have hw1 : max 3000 (wd / 2) = w1 := hw1
    have ed := tdiv10 (x := wd) (by omega) 2
    have rd : IntKind.i64.wrap (wd / 2) = wd / 2 := by rw [IntKind.wrap_i64]; omega
    go_upto_region 8 with (first
      | (go_at_call 59; refine (max10_any 3000 (wd / 2) _).mono ?_; rintro e wM ⟨rfl, hM⟩; have hM := hM.symm; subst hM; rw [hw1]))
    obtain ⟨x8, hx7⟩ : ∃ x, x = (x7.setCell ⟨q, 0, none⟩ (.int .i64 w1)) := ⟨_, rfl⟩
    rw [← hx7]
    have oX : Only q x7 x8 := by rw [hx7]; exact ((Only.refl _ x7).setCell (p := ⟨q, 0, none⟩) rfl _)
    have q0 : x8.cell? ⟨q, 0, none⟩ = some (.int .i64 w1) := by rw [hx7]; exact set_same4 _ q0
    have q1 : x8.cell? ⟨q, 1, none⟩ = some (.int .i64 f1) := by rw [hx7]; exact (set_other4 (by decide)).trans q1
    have q2 : x8.cell? ⟨q, 2, none⟩ = some (.slice a5 n5 c5) := by rw [hx7]; exact (set_other4 (by decide)).trans q2
    have qz : ∀ o : Nat, x8.frozen? ⟨q, o, none⟩ = false := fun o => by rw [hx7]; simpa using qz o
    have p0 := (oX.cell (p := ⟨w.heap.size, 0, none⟩) (by show w.heap.size < _; omega) (by show w.heap.size ≠ q; omega)).trans p0
    have p1 := (oX.cell (p := ⟨w.heap.size, 1, none⟩) (by show w.heap.size < _; omega) (by show w.heap.size ≠ q; omega)).trans p1
    have p2 := (oX.cell (p := ⟨w.heap.size, 2, none⟩) (by show w.heap.size < _; omega) (by show w.heap.size ≠ q; omega)).trans p2
    have v0 := (oX.cell (p := ⟨w.heap.size + 1, 0, none⟩) (by show w.heap.size + 1 < _; omega) (by show w.heap.size + 1 ≠ q; omega)).trans v0
    have v1 := (oX.cell (p := ⟨w.heap.size + 1, 1, none⟩) (by show w.heap.size + 1 < _; omega) (by show w.heap.size + 1 ≠ q; omega)).trans v1
    have v2 := (oX.cell (p := ⟨w.heap.size + 1, 2, none⟩) (by show w.heap.size + 1 < _; omega) (by show w.heap.size + 1 ≠ q; omega)).trans v2
    have vz : ∀ o : Nat, x8.frozen? ⟨w.heap.size + 1, o, none⟩ = false := fun o => (oX.frozen (p := ⟨w.heap.size + 1, o, none⟩) (by show w.heap.size + 1 < _; omega) (by show w.heap.size + 1 ≠ q; omega)).trans (vz o)
    have hbw : Below w.heap.size w x8 := hbw.trans (oX.below (by omega) (by omega))
    have iv8 := iv7.onlyO (OnlyO.of_only oX) (fun g hg e => by have := og6 g hg; injection e with e; omega)
    have zl := Nat.le_trans zl oX.size
    have uq := Nat.lt_of_lt_of_le uq oX.size
    clear hx7 oX
    go_wp2
    obtain ⟨y, ey, cs, fzy, sz, hbel, hon⟩ := over3 (.int .i64 w1) (.int .i64 f1) (.slice a5 n5 c5) (g := w.heap.size + 1) v0 v1 v2
    rw [← ey]
    refine bodyPost_ret (results_one rfl _ _ _ [.int .i64 w1, .int .i64 f1, .slice a5 n5 c5] rfl cs Try.underlying37 rfl (by kernel_rfl)) rfl ?_
    exact ⟨_, _, _, rfl, (iv8.onlyO (OnlyO.of_only hon) (fun g hg e => by have := (iv8.own hg).1; injection e with e; omega)).lower (by omega), hbw.trans (hbel _ (by omega))⟩
end Go.Proofs.Ytoeiheccmpjclaf

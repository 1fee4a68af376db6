/- What impl's moved answers. -/
import Derived.Test.YtiibafphgjlffaeImplMoves
import Derived.Deep.CutBlock
namespace Go.Proofs.Ytiibafphgjlffae
open Go.ChangeShapes Go.WideShapes Go.ChangeAt Go.RowKit
set_option maxRecDepth 100000
set_option linter.unusedVariables false
set_option linter.unusedSimpArgs false

set_option maxHeartbeats 4000000 in
theorem moved_1a {cy sn tp sv mt ta now flight be sn2 tp2 sv2 sa5 sn5 : Int} {w : World} {a : Option Addr} (cap : Nat) {xs : List (Int × Int)} (HBE : Hid (bestOf xs = be)) (rE : IntKind.i64.wrap (now - ta) = now - ta) (htp : 0 ≤ tp ∧ tp ≤ 1000000000000) (hsv : 0 ≤ sv ∧ sv ≤ 3) (hB : obB now be (⟨1, cy, sn, tp, sv, mt, ta⟩ : Pb) = (⟨1, cy, sn2, tp2, sv2, mt, ta⟩ : Pb)) (HE : (10000000000 ≤ now - ta → 4 = sa5 ∧ now = sn5) ∧ (¬ 10000000000 ≤ now - ta → 1 = sa5 ∧ sn2 = sn5)) (smp : Smp w.heap.size w a xs) : Calls Try.prog 93 #[.agg #[.int .i64 1, .int .i64 cy, .int .i64 sn, .int .i64 tp, .int .i64 sv, .slice a xs.length cap, .int .i64 mt, .int .i64 ta], .int .i64 now, .int .i64 flight] w fun e w' => e = .returned (.agg #[.int .i64 sa5, .int .i64 cy, .int .i64 sn5, .int .i64 tp2, .int .i64 sv2, .slice a xs.length cap, .int .i64 mt, .int .i64 ta]) ∧ Below w.heap.size w w' := by
  go_enter Try.func93, Try.ntmps93
  go_upto_region 7 with (first
    | (go_at_call 126; refine (started_is cap HBE htp hsv hB (smp.here (by go_grown))).mono ?_; rintro e w3 ⟨rfl, hbw3⟩; have hbw : Below w.heap.size w w3 := below_two (by go_grown) hbw3; have kc := below_cells4 hbw3; have kf := below_frozens4 hbw3; have zl := hbw3.size; (try simp at zl); have s0 : w3.cell? ⟨w.heap.size, 0, none⟩ = some (.int .i64 1) := (kc _ _ (by simp; try omega)).trans (by go_simp); have s1 : w3.cell? ⟨w.heap.size, 1, none⟩ = some (.int .i64 cy) := (kc _ _ (by simp; try omega)).trans (by go_simp); have s2 : w3.cell? ⟨w.heap.size, 2, none⟩ = some (.int .i64 sn) := (kc _ _ (by simp; try omega)).trans (by go_simp); have s3 : w3.cell? ⟨w.heap.size, 3, none⟩ = some (.int .i64 tp) := (kc _ _ (by simp; try omega)).trans (by go_simp); have s4 : w3.cell? ⟨w.heap.size, 4, none⟩ = some (.int .i64 sv) := (kc _ _ (by simp; try omega)).trans (by go_simp); have s5 : w3.cell? ⟨w.heap.size, 5, none⟩ = some (.slice a xs.length cap) := (kc _ _ (by simp; try omega)).trans (by go_simp); have s6 : w3.cell? ⟨w.heap.size, 6, none⟩ = some (.int .i64 mt) := (kc _ _ (by simp; try omega)).trans (by go_simp); have s7 : w3.cell? ⟨w.heap.size, 7, none⟩ = some (.int .i64 ta) := (kc _ _ (by simp; try omega)).trans (by go_simp); have v0 : w3.cell? ⟨w.heap.size + 1, 0, none⟩ = some (.int .i64 0) := (kc _ _ (by simp; try omega)).trans (by go_simp); have v1 : w3.cell? ⟨w.heap.size + 1, 1, none⟩ = some (.int .i64 0) := (kc _ _ (by simp; try omega)).trans (by go_simp); have v2 : w3.cell? ⟨w.heap.size + 1, 2, none⟩ = some (.int .i64 0) := (kc _ _ (by simp; try omega)).trans (by go_simp); have v3 : w3.cell? ⟨w.heap.size + 1, 3, none⟩ = some (.int .i64 0) := (kc _ _ (by simp; try omega)).trans (by go_simp); have v4 : w3.cell? ⟨w.heap.size + 1, 4, none⟩ = some (.int .i64 0) := (kc _ _ (by simp; try omega)).trans (by go_simp); have v5 : w3.cell? ⟨w.heap.size + 1, 5, none⟩ = some (.slice none 0 0) := (kc _ _ (by simp; try omega)).trans (by go_simp); have v6 : w3.cell? ⟨w.heap.size + 1, 6, none⟩ = some (.int .i64 0) := (kc _ _ (by simp; try omega)).trans (by go_simp); have v7 : w3.cell? ⟨w.heap.size + 1, 7, none⟩ = some (.int .i64 0) := (kc _ _ (by simp; try omega)).trans (by go_simp); have sz : ∀ o : Nat, w3.frozen? ⟨w.heap.size, o, none⟩ = false := (fun o => (kf _ _ (by simp; try omega)).trans (by go_simp)); have vz : ∀ o : Nat, w3.frozen? ⟨w.heap.size + 1, o, none⟩ = false := (fun o => (kf _ _ (by simp; try omega)).trans (by go_simp)); clear kc kf))
  obtain ⟨y, ey, cs, far, fz, zy, hbel, hon⟩ := over8 (.int .i64 1) (.int .i64 cy) (.int .i64 sn2) (.int .i64 tp2) (.int .i64 sv2) (.slice a xs.length cap) (.int .i64 mt) (.int .i64 ta) (w := w3) (g := w.heap.size) s0 s1 s2 s3 s4 s5 s6 s7
  rw [← ey]
  have s0 : y.cell? ⟨w.heap.size, 0, none⟩ = some (.int .i64 1) := cs 0 _ rfl
  have s1 : y.cell? ⟨w.heap.size, 1, none⟩ = some (.int .i64 cy) := cs 1 _ rfl
  have s2 : y.cell? ⟨w.heap.size, 2, none⟩ = some (.int .i64 sn2) := cs 2 _ rfl
  have s3 : y.cell? ⟨w.heap.size, 3, none⟩ = some (.int .i64 tp2) := cs 3 _ rfl
  have s4 : y.cell? ⟨w.heap.size, 4, none⟩ = some (.int .i64 sv2) := cs 4 _ rfl
  have s5 : y.cell? ⟨w.heap.size, 5, none⟩ = some (.slice a xs.length cap) := cs 5 _ rfl
  have s6 : y.cell? ⟨w.heap.size, 6, none⟩ = some (.int .i64 mt) := cs 6 _ rfl
  have s7 : y.cell? ⟨w.heap.size, 7, none⟩ = some (.int .i64 ta) := cs 7 _ rfl
  have v0 : y.cell? ⟨w.heap.size + 1, 0, none⟩ = some (.int .i64 0) := (far _ _ (by omega)).trans v0
  have v1 : y.cell? ⟨w.heap.size + 1, 1, none⟩ = some (.int .i64 0) := (far _ _ (by omega)).trans v1
  have v2 : y.cell? ⟨w.heap.size + 1, 2, none⟩ = some (.int .i64 0) := (far _ _ (by omega)).trans v2
  have v3 : y.cell? ⟨w.heap.size + 1, 3, none⟩ = some (.int .i64 0) := (far _ _ (by omega)).trans v3
  have v4 : y.cell? ⟨w.heap.size + 1, 4, none⟩ = some (.int .i64 0) := (far _ _ (by omega)).trans v4
  have v5 : y.cell? ⟨w.heap.size + 1, 5, none⟩ = some (.slice none 0 0) := (far _ _ (by omega)).trans v5
  have v6 : y.cell? ⟨w.heap.size + 1, 6, none⟩ = some (.int .i64 0) := (far _ _ (by omega)).trans v6
  have v7 : y.cell? ⟨w.heap.size + 1, 7, none⟩ = some (.int .i64 0) := (far _ _ (by omega)).trans v7
  have sz : ∀ o : Nat, y.frozen? ⟨w.heap.size, o, none⟩ = false := fun o => (fz _ _).trans (sz o)
  have vz : ∀ o : Nat, y.frozen? ⟨w.heap.size + 1, o, none⟩ = false := fun o => (fz _ _).trans (vz o)
  have hbw : Below w.heap.size w y := hbw.trans (hbel _ (Nat.le_refl _))
  have zl : w.heap.size + 1 + 1 ≤ y.heap.size := by omega
  clear ey cs far fz zy hbel hon
  go_upto_region 13 with (fail)
  by_cases kE : 10000000000 ≤ now - ta
  · obtain ⟨q1, q3⟩ := HE.1 (by omega)
    subst q1 q3
    go_wp2_with (first
      | (go_at_call 130; refine (entered_any).mono ?_; rintro e wE ⟨rfl, hbwE⟩; have hbw : Below w.heap.size w wE := below_two hbw hbwE; have s0 := (hbwE.cell (p := ⟨w.heap.size, 0, none⟩) (by show w.heap.size < _; omega)).trans s0; have s1 := (hbwE.cell (p := ⟨w.heap.size, 1, none⟩) (by show w.heap.size < _; omega)).trans s1; have s2 := (hbwE.cell (p := ⟨w.heap.size, 2, none⟩) (by show w.heap.size < _; omega)).trans s2; have s3 := (hbwE.cell (p := ⟨w.heap.size, 3, none⟩) (by show w.heap.size < _; omega)).trans s3; have s4 := (hbwE.cell (p := ⟨w.heap.size, 4, none⟩) (by show w.heap.size < _; omega)).trans s4; have s5 := (hbwE.cell (p := ⟨w.heap.size, 5, none⟩) (by show w.heap.size < _; omega)).trans s5; have s6 := (hbwE.cell (p := ⟨w.heap.size, 6, none⟩) (by show w.heap.size < _; omega)).trans s6; have s7 := (hbwE.cell (p := ⟨w.heap.size, 7, none⟩) (by show w.heap.size < _; omega)).trans s7; have v0 := (hbwE.cell (p := ⟨w.heap.size + 1, 0, none⟩) (by show w.heap.size + 1 < _; omega)).trans v0; have v1 := (hbwE.cell (p := ⟨w.heap.size + 1, 1, none⟩) (by show w.heap.size + 1 < _; omega)).trans v1; have v2 := (hbwE.cell (p := ⟨w.heap.size + 1, 2, none⟩) (by show w.heap.size + 1 < _; omega)).trans v2; have v3 := (hbwE.cell (p := ⟨w.heap.size + 1, 3, none⟩) (by show w.heap.size + 1 < _; omega)).trans v3; have v4 := (hbwE.cell (p := ⟨w.heap.size + 1, 4, none⟩) (by show w.heap.size + 1 < _; omega)).trans v4; have v5 := (hbwE.cell (p := ⟨w.heap.size + 1, 5, none⟩) (by show w.heap.size + 1 < _; omega)).trans v5; have v6 := (hbwE.cell (p := ⟨w.heap.size + 1, 6, none⟩) (by show w.heap.size + 1 < _; omega)).trans v6; have v7 := (hbwE.cell (p := ⟨w.heap.size + 1, 7, none⟩) (by show w.heap.size + 1 < _; omega)).trans v7; have vz : ∀ o : Nat, wE.frozen? ⟨w.heap.size + 1, o, none⟩ = false := fun o => (hbwE.frozen (p := ⟨w.heap.size + 1, o, none⟩) (by show w.heap.size + 1 < _; omega)).trans (vz o); have sz : ∀ o : Nat, wE.frozen? ⟨w.heap.size, o, none⟩ = false := fun o => (hbwE.frozen (p := ⟨w.heap.size, o, none⟩) (by show w.heap.size < _; omega)).trans (sz o); have zl : w.heap.size + 1 + 1 ≤ wE.heap.size := Nat.le_trans zl hbwE.size))
    obtain ⟨y, ey, cs, far, fz, zy, hbel, hon⟩ := over8 (.int .i64 4) (.int .i64 cy) (.int .i64 now) (.int .i64 tp2) (.int .i64 sv2) (.slice a xs.length cap) (.int .i64 mt) (.int .i64 ta) (w := wE) (g := w.heap.size + 1) v0 v1 v2 v3 v4 v5 v6 v7
    rw [← ey]
    refine bodyPost_ret (results_one rfl _ _ _ [.int .i64 4, .int .i64 cy, .int .i64 now, .int .i64 tp2, .int .i64 sv2, .slice a xs.length cap, .int .i64 mt, .int .i64 ta] rfl cs Try.underlying53 rfl (by kernel_rfl)) rfl ?_
    exact ⟨rfl, hbw.trans (hbel _ (by omega))⟩
  · obtain ⟨q1, q3⟩ := HE.2 (by omega)
    subst q1 q3
    go_wp2
    obtain ⟨y, ey, cs, far, fz, zy, hbel, hon⟩ := over8 (.int .i64 1) (.int .i64 cy) (.int .i64 sn2) (.int .i64 tp2) (.int .i64 sv2) (.slice a xs.length cap) (.int .i64 mt) (.int .i64 ta) (w := y) (g := w.heap.size + 1) v0 v1 v2 v3 v4 v5 v6 v7
    rw [← ey]
    refine bodyPost_ret (results_one rfl _ _ _ [.int .i64 1, .int .i64 cy, .int .i64 sn2, .int .i64 tp2, .int .i64 sv2, .slice a xs.length cap, .int .i64 mt, .int .i64 ta] rfl cs Try.underlying53 rfl (by kernel_rfl)) rfl ?_
    exact ⟨rfl, hbw.trans (hbel _ (by omega))⟩
set_option maxHeartbeats 4000000 in
theorem moved_1b {cy sn tp sv mt ta now flight be sn2 tp2 sv2 sa3 cy3 sn3 sa5 sn5 : Int} {w : World} {a : Option Addr} (cap : Nat) {xs : List (Int × Int)} (HBE : Hid (bestOf xs = be)) (rE : IntKind.i64.wrap (now - ta) = now - ta) (htp : 0 ≤ tp ∧ tp ≤ 1000000000000) (hsv : 0 ≤ sv ∧ sv ≤ 3) (hB : obB now be (⟨1, cy, sn, tp, sv, mt, ta⟩ : Pb) = (⟨2, cy, sn2, tp2, sv2, mt, ta⟩ : Pb)) (hC : obC now be flight (⟨2, cy, sn2, tp2, sv2, mt, ta⟩ : Pb) = (⟨sa3, cy3, sn3, tp2, sv2, mt, ta⟩ : Pb)) (HE : (10000000000 ≤ now - ta → 4 = sa5 ∧ now = sn5) ∧ (¬ 10000000000 ≤ now - ta → sa3 = sa5 ∧ sn3 = sn5)) (smp : Smp w.heap.size w a xs) : Calls Try.prog 93 #[.agg #[.int .i64 1, .int .i64 cy, .int .i64 sn, .int .i64 tp, .int .i64 sv, .slice a xs.length cap, .int .i64 mt, .int .i64 ta], .int .i64 now, .int .i64 flight] w fun e w' => e = .returned (.agg #[.int .i64 sa5, .int .i64 cy3, .int .i64 sn5, .int .i64 tp2, .int .i64 sv2, .slice a xs.length cap, .int .i64 mt, .int .i64 ta]) ∧ Below w.heap.size w w' := by
  go_enter Try.func93, Try.ntmps93
  go_upto_region 7 with (first
    | (go_at_call 126; refine (started_is cap HBE htp hsv hB (smp.here (by go_grown))).mono ?_; rintro e w3 ⟨rfl, hbw3⟩; have hbw : Below w.heap.size w w3 := below_two (by go_grown) hbw3; have kc := below_cells4 hbw3; have kf := below_frozens4 hbw3; have zl := hbw3.size; (try simp at zl); have s0 : w3.cell? ⟨w.heap.size, 0, none⟩ = some (.int .i64 1) := (kc _ _ (by simp; try omega)).trans (by go_simp); have s1 : w3.cell? ⟨w.heap.size, 1, none⟩ = some (.int .i64 cy) := (kc _ _ (by simp; try omega)).trans (by go_simp); have s2 : w3.cell? ⟨w.heap.size, 2, none⟩ = some (.int .i64 sn) := (kc _ _ (by simp; try omega)).trans (by go_simp); have s3 : w3.cell? ⟨w.heap.size, 3, none⟩ = some (.int .i64 tp) := (kc _ _ (by simp; try omega)).trans (by go_simp); have s4 : w3.cell? ⟨w.heap.size, 4, none⟩ = some (.int .i64 sv) := (kc _ _ (by simp; try omega)).trans (by go_simp); have s5 : w3.cell? ⟨w.heap.size, 5, none⟩ = some (.slice a xs.length cap) := (kc _ _ (by simp; try omega)).trans (by go_simp); have s6 : w3.cell? ⟨w.heap.size, 6, none⟩ = some (.int .i64 mt) := (kc _ _ (by simp; try omega)).trans (by go_simp); have s7 : w3.cell? ⟨w.heap.size, 7, none⟩ = some (.int .i64 ta) := (kc _ _ (by simp; try omega)).trans (by go_simp); have v0 : w3.cell? ⟨w.heap.size + 1, 0, none⟩ = some (.int .i64 0) := (kc _ _ (by simp; try omega)).trans (by go_simp); have v1 : w3.cell? ⟨w.heap.size + 1, 1, none⟩ = some (.int .i64 0) := (kc _ _ (by simp; try omega)).trans (by go_simp); have v2 : w3.cell? ⟨w.heap.size + 1, 2, none⟩ = some (.int .i64 0) := (kc _ _ (by simp; try omega)).trans (by go_simp); have v3 : w3.cell? ⟨w.heap.size + 1, 3, none⟩ = some (.int .i64 0) := (kc _ _ (by simp; try omega)).trans (by go_simp); have v4 : w3.cell? ⟨w.heap.size + 1, 4, none⟩ = some (.int .i64 0) := (kc _ _ (by simp; try omega)).trans (by go_simp); have v5 : w3.cell? ⟨w.heap.size + 1, 5, none⟩ = some (.slice none 0 0) := (kc _ _ (by simp; try omega)).trans (by go_simp); have v6 : w3.cell? ⟨w.heap.size + 1, 6, none⟩ = some (.int .i64 0) := (kc _ _ (by simp; try omega)).trans (by go_simp); have v7 : w3.cell? ⟨w.heap.size + 1, 7, none⟩ = some (.int .i64 0) := (kc _ _ (by simp; try omega)).trans (by go_simp); have sz : ∀ o : Nat, w3.frozen? ⟨w.heap.size, o, none⟩ = false := (fun o => (kf _ _ (by simp; try omega)).trans (by go_simp)); have vz : ∀ o : Nat, w3.frozen? ⟨w.heap.size + 1, o, none⟩ = false := (fun o => (kf _ _ (by simp; try omega)).trans (by go_simp)); clear kc kf))
  obtain ⟨y, ey, cs, far, fz, zy, hbel, hon⟩ := over8 (.int .i64 2) (.int .i64 cy) (.int .i64 sn2) (.int .i64 tp2) (.int .i64 sv2) (.slice a xs.length cap) (.int .i64 mt) (.int .i64 ta) (w := w3) (g := w.heap.size) s0 s1 s2 s3 s4 s5 s6 s7
  rw [← ey]
  have s0 : y.cell? ⟨w.heap.size, 0, none⟩ = some (.int .i64 2) := cs 0 _ rfl
  have s1 : y.cell? ⟨w.heap.size, 1, none⟩ = some (.int .i64 cy) := cs 1 _ rfl
  have s2 : y.cell? ⟨w.heap.size, 2, none⟩ = some (.int .i64 sn2) := cs 2 _ rfl
  have s3 : y.cell? ⟨w.heap.size, 3, none⟩ = some (.int .i64 tp2) := cs 3 _ rfl
  have s4 : y.cell? ⟨w.heap.size, 4, none⟩ = some (.int .i64 sv2) := cs 4 _ rfl
  have s5 : y.cell? ⟨w.heap.size, 5, none⟩ = some (.slice a xs.length cap) := cs 5 _ rfl
  have s6 : y.cell? ⟨w.heap.size, 6, none⟩ = some (.int .i64 mt) := cs 6 _ rfl
  have s7 : y.cell? ⟨w.heap.size, 7, none⟩ = some (.int .i64 ta) := cs 7 _ rfl
  have v0 : y.cell? ⟨w.heap.size + 1, 0, none⟩ = some (.int .i64 0) := (far _ _ (by omega)).trans v0
  have v1 : y.cell? ⟨w.heap.size + 1, 1, none⟩ = some (.int .i64 0) := (far _ _ (by omega)).trans v1
  have v2 : y.cell? ⟨w.heap.size + 1, 2, none⟩ = some (.int .i64 0) := (far _ _ (by omega)).trans v2
  have v3 : y.cell? ⟨w.heap.size + 1, 3, none⟩ = some (.int .i64 0) := (far _ _ (by omega)).trans v3
  have v4 : y.cell? ⟨w.heap.size + 1, 4, none⟩ = some (.int .i64 0) := (far _ _ (by omega)).trans v4
  have v5 : y.cell? ⟨w.heap.size + 1, 5, none⟩ = some (.slice none 0 0) := (far _ _ (by omega)).trans v5
  have v6 : y.cell? ⟨w.heap.size + 1, 6, none⟩ = some (.int .i64 0) := (far _ _ (by omega)).trans v6
  have v7 : y.cell? ⟨w.heap.size + 1, 7, none⟩ = some (.int .i64 0) := (far _ _ (by omega)).trans v7
  have sz : ∀ o : Nat, y.frozen? ⟨w.heap.size, o, none⟩ = false := fun o => (fz _ _).trans (sz o)
  have vz : ∀ o : Nat, y.frozen? ⟨w.heap.size + 1, o, none⟩ = false := fun o => (fz _ _).trans (vz o)
  have hbw : Below w.heap.size w y := hbw.trans (hbel _ (Nat.le_refl _))
  have zl : w.heap.size + 1 + 1 ≤ y.heap.size := by omega
  clear ey cs far fz zy hbel hon
  go_upto_region 13 with (first
    | (go_at_call 127; refine (drained_is cap HBE hC (smp.here hbw)).mono ?_; rintro e w5 ⟨rfl, hbw5⟩; have hbw : Below w.heap.size w w5 := below_two hbw hbw5; have s0 := (hbw5.cell (p := ⟨w.heap.size, 0, none⟩) (by show w.heap.size < _; omega)).trans s0; have s1 := (hbw5.cell (p := ⟨w.heap.size, 1, none⟩) (by show w.heap.size < _; omega)).trans s1; have s2 := (hbw5.cell (p := ⟨w.heap.size, 2, none⟩) (by show w.heap.size < _; omega)).trans s2; have s3 := (hbw5.cell (p := ⟨w.heap.size, 3, none⟩) (by show w.heap.size < _; omega)).trans s3; have s4 := (hbw5.cell (p := ⟨w.heap.size, 4, none⟩) (by show w.heap.size < _; omega)).trans s4; have s5 := (hbw5.cell (p := ⟨w.heap.size, 5, none⟩) (by show w.heap.size < _; omega)).trans s5; have s6 := (hbw5.cell (p := ⟨w.heap.size, 6, none⟩) (by show w.heap.size < _; omega)).trans s6; have s7 := (hbw5.cell (p := ⟨w.heap.size, 7, none⟩) (by show w.heap.size < _; omega)).trans s7; have v0 := (hbw5.cell (p := ⟨w.heap.size + 1, 0, none⟩) (by show w.heap.size + 1 < _; omega)).trans v0; have v1 := (hbw5.cell (p := ⟨w.heap.size + 1, 1, none⟩) (by show w.heap.size + 1 < _; omega)).trans v1; have v2 := (hbw5.cell (p := ⟨w.heap.size + 1, 2, none⟩) (by show w.heap.size + 1 < _; omega)).trans v2; have v3 := (hbw5.cell (p := ⟨w.heap.size + 1, 3, none⟩) (by show w.heap.size + 1 < _; omega)).trans v3; have v4 := (hbw5.cell (p := ⟨w.heap.size + 1, 4, none⟩) (by show w.heap.size + 1 < _; omega)).trans v4; have v5 := (hbw5.cell (p := ⟨w.heap.size + 1, 5, none⟩) (by show w.heap.size + 1 < _; omega)).trans v5; have v6 := (hbw5.cell (p := ⟨w.heap.size + 1, 6, none⟩) (by show w.heap.size + 1 < _; omega)).trans v6; have v7 := (hbw5.cell (p := ⟨w.heap.size + 1, 7, none⟩) (by show w.heap.size + 1 < _; omega)).trans v7; have vz : ∀ o : Nat, w5.frozen? ⟨w.heap.size + 1, o, none⟩ = false := fun o => (hbw5.frozen (p := ⟨w.heap.size + 1, o, none⟩) (by show w.heap.size + 1 < _; omega)).trans (vz o); have sz : ∀ o : Nat, w5.frozen? ⟨w.heap.size, o, none⟩ = false := fun o => (hbw5.frozen (p := ⟨w.heap.size, o, none⟩) (by show w.heap.size < _; omega)).trans (sz o); have zl : w.heap.size + 1 + 1 ≤ w5.heap.size := Nat.le_trans zl hbw5.size))
  obtain ⟨z, ey, cs, far, fz, zy, hbel, hon⟩ := over8 (.int .i64 sa3) (.int .i64 cy3) (.int .i64 sn3) (.int .i64 tp2) (.int .i64 sv2) (.slice a xs.length cap) (.int .i64 mt) (.int .i64 ta) (w := w5) (g := w.heap.size) s0 s1 s2 s3 s4 s5 s6 s7
  rw [← ey]
  have s0 : z.cell? ⟨w.heap.size, 0, none⟩ = some (.int .i64 sa3) := cs 0 _ rfl
  have s1 : z.cell? ⟨w.heap.size, 1, none⟩ = some (.int .i64 cy3) := cs 1 _ rfl
  have s2 : z.cell? ⟨w.heap.size, 2, none⟩ = some (.int .i64 sn3) := cs 2 _ rfl
  have s3 : z.cell? ⟨w.heap.size, 3, none⟩ = some (.int .i64 tp2) := cs 3 _ rfl
  have s4 : z.cell? ⟨w.heap.size, 4, none⟩ = some (.int .i64 sv2) := cs 4 _ rfl
  have s5 : z.cell? ⟨w.heap.size, 5, none⟩ = some (.slice a xs.length cap) := cs 5 _ rfl
  have s6 : z.cell? ⟨w.heap.size, 6, none⟩ = some (.int .i64 mt) := cs 6 _ rfl
  have s7 : z.cell? ⟨w.heap.size, 7, none⟩ = some (.int .i64 ta) := cs 7 _ rfl
  have v0 : z.cell? ⟨w.heap.size + 1, 0, none⟩ = some (.int .i64 0) := (far _ _ (by omega)).trans v0
  have v1 : z.cell? ⟨w.heap.size + 1, 1, none⟩ = some (.int .i64 0) := (far _ _ (by omega)).trans v1
  have v2 : z.cell? ⟨w.heap.size + 1, 2, none⟩ = some (.int .i64 0) := (far _ _ (by omega)).trans v2
  have v3 : z.cell? ⟨w.heap.size + 1, 3, none⟩ = some (.int .i64 0) := (far _ _ (by omega)).trans v3
  have v4 : z.cell? ⟨w.heap.size + 1, 4, none⟩ = some (.int .i64 0) := (far _ _ (by omega)).trans v4
  have v5 : z.cell? ⟨w.heap.size + 1, 5, none⟩ = some (.slice none 0 0) := (far _ _ (by omega)).trans v5
  have v6 : z.cell? ⟨w.heap.size + 1, 6, none⟩ = some (.int .i64 0) := (far _ _ (by omega)).trans v6
  have v7 : z.cell? ⟨w.heap.size + 1, 7, none⟩ = some (.int .i64 0) := (far _ _ (by omega)).trans v7
  have sz : ∀ o : Nat, z.frozen? ⟨w.heap.size, o, none⟩ = false := fun o => (fz _ _).trans (sz o)
  have vz : ∀ o : Nat, z.frozen? ⟨w.heap.size + 1, o, none⟩ = false := fun o => (fz _ _).trans (vz o)
  have hbw : Below w.heap.size w z := hbw.trans (hbel _ (Nat.le_refl _))
  have zl : w.heap.size + 1 + 1 ≤ z.heap.size := by omega
  clear ey cs far fz zy hbel hon
  by_cases kE : 10000000000 ≤ now - ta
  · obtain ⟨q1, q3⟩ := HE.1 (by omega)
    subst q1 q3
    go_wp2_with (first
      | (go_at_call 130; refine (entered_any).mono ?_; rintro e wE ⟨rfl, hbwE⟩; have hbw : Below w.heap.size w wE := below_two hbw hbwE; have s0 := (hbwE.cell (p := ⟨w.heap.size, 0, none⟩) (by show w.heap.size < _; omega)).trans s0; have s1 := (hbwE.cell (p := ⟨w.heap.size, 1, none⟩) (by show w.heap.size < _; omega)).trans s1; have s2 := (hbwE.cell (p := ⟨w.heap.size, 2, none⟩) (by show w.heap.size < _; omega)).trans s2; have s3 := (hbwE.cell (p := ⟨w.heap.size, 3, none⟩) (by show w.heap.size < _; omega)).trans s3; have s4 := (hbwE.cell (p := ⟨w.heap.size, 4, none⟩) (by show w.heap.size < _; omega)).trans s4; have s5 := (hbwE.cell (p := ⟨w.heap.size, 5, none⟩) (by show w.heap.size < _; omega)).trans s5; have s6 := (hbwE.cell (p := ⟨w.heap.size, 6, none⟩) (by show w.heap.size < _; omega)).trans s6; have s7 := (hbwE.cell (p := ⟨w.heap.size, 7, none⟩) (by show w.heap.size < _; omega)).trans s7; have v0 := (hbwE.cell (p := ⟨w.heap.size + 1, 0, none⟩) (by show w.heap.size + 1 < _; omega)).trans v0; have v1 := (hbwE.cell (p := ⟨w.heap.size + 1, 1, none⟩) (by show w.heap.size + 1 < _; omega)).trans v1; have v2 := (hbwE.cell (p := ⟨w.heap.size + 1, 2, none⟩) (by show w.heap.size + 1 < _; omega)).trans v2; have v3 := (hbwE.cell (p := ⟨w.heap.size + 1, 3, none⟩) (by show w.heap.size + 1 < _; omega)).trans v3; have v4 := (hbwE.cell (p := ⟨w.heap.size + 1, 4, none⟩) (by show w.heap.size + 1 < _; omega)).trans v4; have v5 := (hbwE.cell (p := ⟨w.heap.size + 1, 5, none⟩) (by show w.heap.size + 1 < _; omega)).trans v5; have v6 := (hbwE.cell (p := ⟨w.heap.size + 1, 6, none⟩) (by show w.heap.size + 1 < _; omega)).trans v6; have v7 := (hbwE.cell (p := ⟨w.heap.size + 1, 7, none⟩) (by show w.heap.size + 1 < _; omega)).trans v7; have vz : ∀ o : Nat, wE.frozen? ⟨w.heap.size + 1, o, none⟩ = false := fun o => (hbwE.frozen (p := ⟨w.heap.size + 1, o, none⟩) (by show w.heap.size + 1 < _; omega)).trans (vz o); have sz : ∀ o : Nat, wE.frozen? ⟨w.heap.size, o, none⟩ = false := fun o => (hbwE.frozen (p := ⟨w.heap.size, o, none⟩) (by show w.heap.size < _; omega)).trans (sz o); have zl : w.heap.size + 1 + 1 ≤ wE.heap.size := Nat.le_trans zl hbwE.size))
    obtain ⟨y, ey, cs, far, fz, zy, hbel, hon⟩ := over8 (.int .i64 4) (.int .i64 cy3) (.int .i64 now) (.int .i64 tp2) (.int .i64 sv2) (.slice a xs.length cap) (.int .i64 mt) (.int .i64 ta) (w := wE) (g := w.heap.size + 1) v0 v1 v2 v3 v4 v5 v6 v7
    rw [← ey]
    refine bodyPost_ret (results_one rfl _ _ _ [.int .i64 4, .int .i64 cy3, .int .i64 now, .int .i64 tp2, .int .i64 sv2, .slice a xs.length cap, .int .i64 mt, .int .i64 ta] rfl cs Try.underlying53 rfl (by kernel_rfl)) rfl ?_
    exact ⟨rfl, hbw.trans (hbel _ (by omega))⟩
  · obtain ⟨q1, q3⟩ := HE.2 (by omega)
    subst q1 q3
    go_wp2
    obtain ⟨y, ey, cs, far, fz, zy, hbel, hon⟩ := over8 (.int .i64 sa3) (.int .i64 cy3) (.int .i64 sn3) (.int .i64 tp2) (.int .i64 sv2) (.slice a xs.length cap) (.int .i64 mt) (.int .i64 ta) (w := z) (g := w.heap.size + 1) v0 v1 v2 v3 v4 v5 v6 v7
    rw [← ey]
    refine bodyPost_ret (results_one rfl _ _ _ [.int .i64 sa3, .int .i64 cy3, .int .i64 sn3, .int .i64 tp2, .int .i64 sv2, .slice a xs.length cap, .int .i64 mt, .int .i64 ta] rfl cs Try.underlying53 rfl (by kernel_rfl)) rfl ?_
    exact ⟨rfl, hbw.trans (hbel _ (by omega))⟩
set_option maxHeartbeats 4000000 in
theorem moved_2 {cy sn tp sv mt ta now flight be sa3 cy3 sn3 sa5 sn5 : Int} {w : World} {a : Option Addr} (cap : Nat) {xs : List (Int × Int)} (HBE : Hid (bestOf xs = be)) (rE : IntKind.i64.wrap (now - ta) = now - ta) (hC : obC now be flight (⟨2, cy, sn, tp, sv, mt, ta⟩ : Pb) = (⟨sa3, cy3, sn3, tp, sv, mt, ta⟩ : Pb)) (HE : (10000000000 ≤ now - ta → 4 = sa5 ∧ now = sn5) ∧ (¬ 10000000000 ≤ now - ta → sa3 = sa5 ∧ sn3 = sn5)) (smp : Smp w.heap.size w a xs) : Calls Try.prog 93 #[.agg #[.int .i64 2, .int .i64 cy, .int .i64 sn, .int .i64 tp, .int .i64 sv, .slice a xs.length cap, .int .i64 mt, .int .i64 ta], .int .i64 now, .int .i64 flight] w fun e w' => e = .returned (.agg #[.int .i64 sa5, .int .i64 cy3, .int .i64 sn5, .int .i64 tp, .int .i64 sv, .slice a xs.length cap, .int .i64 mt, .int .i64 ta]) ∧ Below w.heap.size w w' := by
  go_enter Try.func93, Try.ntmps93
  go_upto_region 13 with (first
    | (go_at_call 127; refine (drained_is cap HBE hC (smp.here (by go_grown))).mono ?_; rintro e w3 ⟨rfl, hbw3⟩; have hbw : Below w.heap.size w w3 := below_two (by go_grown) hbw3; have kc := below_cells4 hbw3; have kf := below_frozens4 hbw3; have zl := hbw3.size; (try simp at zl); have s0 : w3.cell? ⟨w.heap.size, 0, none⟩ = some (.int .i64 2) := (kc _ _ (by simp; try omega)).trans (by go_simp); have s1 : w3.cell? ⟨w.heap.size, 1, none⟩ = some (.int .i64 cy) := (kc _ _ (by simp; try omega)).trans (by go_simp); have s2 : w3.cell? ⟨w.heap.size, 2, none⟩ = some (.int .i64 sn) := (kc _ _ (by simp; try omega)).trans (by go_simp); have s3 : w3.cell? ⟨w.heap.size, 3, none⟩ = some (.int .i64 tp) := (kc _ _ (by simp; try omega)).trans (by go_simp); have s4 : w3.cell? ⟨w.heap.size, 4, none⟩ = some (.int .i64 sv) := (kc _ _ (by simp; try omega)).trans (by go_simp); have s5 : w3.cell? ⟨w.heap.size, 5, none⟩ = some (.slice a xs.length cap) := (kc _ _ (by simp; try omega)).trans (by go_simp); have s6 : w3.cell? ⟨w.heap.size, 6, none⟩ = some (.int .i64 mt) := (kc _ _ (by simp; try omega)).trans (by go_simp); have s7 : w3.cell? ⟨w.heap.size, 7, none⟩ = some (.int .i64 ta) := (kc _ _ (by simp; try omega)).trans (by go_simp); have v0 : w3.cell? ⟨w.heap.size + 1, 0, none⟩ = some (.int .i64 0) := (kc _ _ (by simp; try omega)).trans (by go_simp); have v1 : w3.cell? ⟨w.heap.size + 1, 1, none⟩ = some (.int .i64 0) := (kc _ _ (by simp; try omega)).trans (by go_simp); have v2 : w3.cell? ⟨w.heap.size + 1, 2, none⟩ = some (.int .i64 0) := (kc _ _ (by simp; try omega)).trans (by go_simp); have v3 : w3.cell? ⟨w.heap.size + 1, 3, none⟩ = some (.int .i64 0) := (kc _ _ (by simp; try omega)).trans (by go_simp); have v4 : w3.cell? ⟨w.heap.size + 1, 4, none⟩ = some (.int .i64 0) := (kc _ _ (by simp; try omega)).trans (by go_simp); have v5 : w3.cell? ⟨w.heap.size + 1, 5, none⟩ = some (.slice none 0 0) := (kc _ _ (by simp; try omega)).trans (by go_simp); have v6 : w3.cell? ⟨w.heap.size + 1, 6, none⟩ = some (.int .i64 0) := (kc _ _ (by simp; try omega)).trans (by go_simp); have v7 : w3.cell? ⟨w.heap.size + 1, 7, none⟩ = some (.int .i64 0) := (kc _ _ (by simp; try omega)).trans (by go_simp); have sz : ∀ o : Nat, w3.frozen? ⟨w.heap.size, o, none⟩ = false := (fun o => (kf _ _ (by simp; try omega)).trans (by go_simp)); have vz : ∀ o : Nat, w3.frozen? ⟨w.heap.size + 1, o, none⟩ = false := (fun o => (kf _ _ (by simp; try omega)).trans (by go_simp)); clear kc kf))
  obtain ⟨y, ey, cs, far, fz, zy, hbel, hon⟩ := over8 (.int .i64 sa3) (.int .i64 cy3) (.int .i64 sn3) (.int .i64 tp) (.int .i64 sv) (.slice a xs.length cap) (.int .i64 mt) (.int .i64 ta) (w := w3) (g := w.heap.size) s0 s1 s2 s3 s4 s5 s6 s7
  rw [← ey]
  have s0 : y.cell? ⟨w.heap.size, 0, none⟩ = some (.int .i64 sa3) := cs 0 _ rfl
  have s1 : y.cell? ⟨w.heap.size, 1, none⟩ = some (.int .i64 cy3) := cs 1 _ rfl
  have s2 : y.cell? ⟨w.heap.size, 2, none⟩ = some (.int .i64 sn3) := cs 2 _ rfl
  have s3 : y.cell? ⟨w.heap.size, 3, none⟩ = some (.int .i64 tp) := cs 3 _ rfl
  have s4 : y.cell? ⟨w.heap.size, 4, none⟩ = some (.int .i64 sv) := cs 4 _ rfl
  have s5 : y.cell? ⟨w.heap.size, 5, none⟩ = some (.slice a xs.length cap) := cs 5 _ rfl
  have s6 : y.cell? ⟨w.heap.size, 6, none⟩ = some (.int .i64 mt) := cs 6 _ rfl
  have s7 : y.cell? ⟨w.heap.size, 7, none⟩ = some (.int .i64 ta) := cs 7 _ rfl
  have v0 : y.cell? ⟨w.heap.size + 1, 0, none⟩ = some (.int .i64 0) := (far _ _ (by omega)).trans v0
  have v1 : y.cell? ⟨w.heap.size + 1, 1, none⟩ = some (.int .i64 0) := (far _ _ (by omega)).trans v1
  have v2 : y.cell? ⟨w.heap.size + 1, 2, none⟩ = some (.int .i64 0) := (far _ _ (by omega)).trans v2
  have v3 : y.cell? ⟨w.heap.size + 1, 3, none⟩ = some (.int .i64 0) := (far _ _ (by omega)).trans v3
  have v4 : y.cell? ⟨w.heap.size + 1, 4, none⟩ = some (.int .i64 0) := (far _ _ (by omega)).trans v4
  have v5 : y.cell? ⟨w.heap.size + 1, 5, none⟩ = some (.slice none 0 0) := (far _ _ (by omega)).trans v5
  have v6 : y.cell? ⟨w.heap.size + 1, 6, none⟩ = some (.int .i64 0) := (far _ _ (by omega)).trans v6
  have v7 : y.cell? ⟨w.heap.size + 1, 7, none⟩ = some (.int .i64 0) := (far _ _ (by omega)).trans v7
  have sz : ∀ o : Nat, y.frozen? ⟨w.heap.size, o, none⟩ = false := fun o => (fz _ _).trans (sz o)
  have vz : ∀ o : Nat, y.frozen? ⟨w.heap.size + 1, o, none⟩ = false := fun o => (fz _ _).trans (vz o)
  have hbw : Below w.heap.size w y := hbw.trans (hbel _ (Nat.le_refl _))
  have zl : w.heap.size + 1 + 1 ≤ y.heap.size := by omega
  clear ey cs far fz zy hbel hon
  by_cases kE : 10000000000 ≤ now - ta
  · obtain ⟨q1, q3⟩ := HE.1 (by omega)
    subst q1 q3
    go_wp2_with (first
      | (go_at_call 130; refine (entered_any).mono ?_; rintro e wE ⟨rfl, hbwE⟩; have hbw : Below w.heap.size w wE := below_two hbw hbwE; have s0 := (hbwE.cell (p := ⟨w.heap.size, 0, none⟩) (by show w.heap.size < _; omega)).trans s0; have s1 := (hbwE.cell (p := ⟨w.heap.size, 1, none⟩) (by show w.heap.size < _; omega)).trans s1; have s2 := (hbwE.cell (p := ⟨w.heap.size, 2, none⟩) (by show w.heap.size < _; omega)).trans s2; have s3 := (hbwE.cell (p := ⟨w.heap.size, 3, none⟩) (by show w.heap.size < _; omega)).trans s3; have s4 := (hbwE.cell (p := ⟨w.heap.size, 4, none⟩) (by show w.heap.size < _; omega)).trans s4; have s5 := (hbwE.cell (p := ⟨w.heap.size, 5, none⟩) (by show w.heap.size < _; omega)).trans s5; have s6 := (hbwE.cell (p := ⟨w.heap.size, 6, none⟩) (by show w.heap.size < _; omega)).trans s6; have s7 := (hbwE.cell (p := ⟨w.heap.size, 7, none⟩) (by show w.heap.size < _; omega)).trans s7; have v0 := (hbwE.cell (p := ⟨w.heap.size + 1, 0, none⟩) (by show w.heap.size + 1 < _; omega)).trans v0; have v1 := (hbwE.cell (p := ⟨w.heap.size + 1, 1, none⟩) (by show w.heap.size + 1 < _; omega)).trans v1; have v2 := (hbwE.cell (p := ⟨w.heap.size + 1, 2, none⟩) (by show w.heap.size + 1 < _; omega)).trans v2; have v3 := (hbwE.cell (p := ⟨w.heap.size + 1, 3, none⟩) (by show w.heap.size + 1 < _; omega)).trans v3; have v4 := (hbwE.cell (p := ⟨w.heap.size + 1, 4, none⟩) (by show w.heap.size + 1 < _; omega)).trans v4; have v5 := (hbwE.cell (p := ⟨w.heap.size + 1, 5, none⟩) (by show w.heap.size + 1 < _; omega)).trans v5; have v6 := (hbwE.cell (p := ⟨w.heap.size + 1, 6, none⟩) (by show w.heap.size + 1 < _; omega)).trans v6; have v7 := (hbwE.cell (p := ⟨w.heap.size + 1, 7, none⟩) (by show w.heap.size + 1 < _; omega)).trans v7; have vz : ∀ o : Nat, wE.frozen? ⟨w.heap.size + 1, o, none⟩ = false := fun o => (hbwE.frozen (p := ⟨w.heap.size + 1, o, none⟩) (by show w.heap.size + 1 < _; omega)).trans (vz o); have sz : ∀ o : Nat, wE.frozen? ⟨w.heap.size, o, none⟩ = false := fun o => (hbwE.frozen (p := ⟨w.heap.size, o, none⟩) (by show w.heap.size < _; omega)).trans (sz o); have zl : w.heap.size + 1 + 1 ≤ wE.heap.size := Nat.le_trans zl hbwE.size))
    obtain ⟨y, ey, cs, far, fz, zy, hbel, hon⟩ := over8 (.int .i64 4) (.int .i64 cy3) (.int .i64 now) (.int .i64 tp) (.int .i64 sv) (.slice a xs.length cap) (.int .i64 mt) (.int .i64 ta) (w := wE) (g := w.heap.size + 1) v0 v1 v2 v3 v4 v5 v6 v7
    rw [← ey]
    refine bodyPost_ret (results_one rfl _ _ _ [.int .i64 4, .int .i64 cy3, .int .i64 now, .int .i64 tp, .int .i64 sv, .slice a xs.length cap, .int .i64 mt, .int .i64 ta] rfl cs Try.underlying53 rfl (by kernel_rfl)) rfl ?_
    exact ⟨rfl, hbw.trans (hbel _ (by omega))⟩
  · obtain ⟨q1, q3⟩ := HE.2 (by omega)
    subst q1 q3
    go_wp2
    obtain ⟨y, ey, cs, far, fz, zy, hbel, hon⟩ := over8 (.int .i64 sa3) (.int .i64 cy3) (.int .i64 sn3) (.int .i64 tp) (.int .i64 sv) (.slice a xs.length cap) (.int .i64 mt) (.int .i64 ta) (w := y) (g := w.heap.size + 1) v0 v1 v2 v3 v4 v5 v6 v7
    rw [← ey]
    refine bodyPost_ret (results_one rfl _ _ _ [.int .i64 sa3, .int .i64 cy3, .int .i64 sn3, .int .i64 tp, .int .i64 sv, .slice a xs.length cap, .int .i64 mt, .int .i64 ta] rfl cs Try.underlying53 rfl (by kernel_rfl)) rfl ?_
    exact ⟨rfl, hbw.trans (hbel _ (by omega))⟩
set_option maxHeartbeats 4000000 in
theorem moved_3 {cy sn tp sv mt ta now flight be cy4 sn4 sa5 sn5 : Int} {w : World} {a : Option Addr} (cap : Nat) {xs : List (Int × Int)} (HBE : Hid (bestOf xs = be)) (rE : IntKind.i64.wrap (now - ta) = now - ta) (r : IntKind.i64.wrap (now - sn) = now - sn) (hcy : 0 ≤ cy ∧ cy ≤ 7) (hD : obD 3 now (⟨3, cy, sn, tp, sv, mt, ta⟩ : Pb) = (⟨3, cy4, sn4, tp, sv, mt, ta⟩ : Pb)) (HE : (10000000000 ≤ now - ta → 4 = sa5 ∧ now = sn5) ∧ (¬ 10000000000 ≤ now - ta → 3 = sa5 ∧ sn4 = sn5)) (smp : Smp w.heap.size w a xs) : Calls Try.prog 93 #[.agg #[.int .i64 3, .int .i64 cy, .int .i64 sn, .int .i64 tp, .int .i64 sv, .slice a xs.length cap, .int .i64 mt, .int .i64 ta], .int .i64 now, .int .i64 flight] w fun e w' => e = .returned (.agg #[.int .i64 sa5, .int .i64 cy4, .int .i64 sn5, .int .i64 tp, .int .i64 sv, .slice a xs.length cap, .int .i64 mt, .int .i64 ta]) ∧ Below w.heap.size w w' := by
  go_enter Try.func93, Try.ntmps93
  go_upto_region 13 with (first
    | (go_at_call 128; refine (cycled_is r hcy hD).mono ?_; rintro e w3 ⟨rfl, hbw3⟩; have hbw : Below w.heap.size w w3 := below_two (by go_grown) hbw3; have kc := below_cells4 hbw3; have kf := below_frozens4 hbw3; have zl := hbw3.size; (try simp at zl); have s0 : w3.cell? ⟨w.heap.size, 0, none⟩ = some (.int .i64 3) := (kc _ _ (by simp; try omega)).trans (by go_simp); have s1 : w3.cell? ⟨w.heap.size, 1, none⟩ = some (.int .i64 cy) := (kc _ _ (by simp; try omega)).trans (by go_simp); have s2 : w3.cell? ⟨w.heap.size, 2, none⟩ = some (.int .i64 sn) := (kc _ _ (by simp; try omega)).trans (by go_simp); have s3 : w3.cell? ⟨w.heap.size, 3, none⟩ = some (.int .i64 tp) := (kc _ _ (by simp; try omega)).trans (by go_simp); have s4 : w3.cell? ⟨w.heap.size, 4, none⟩ = some (.int .i64 sv) := (kc _ _ (by simp; try omega)).trans (by go_simp); have s5 : w3.cell? ⟨w.heap.size, 5, none⟩ = some (.slice a xs.length cap) := (kc _ _ (by simp; try omega)).trans (by go_simp); have s6 : w3.cell? ⟨w.heap.size, 6, none⟩ = some (.int .i64 mt) := (kc _ _ (by simp; try omega)).trans (by go_simp); have s7 : w3.cell? ⟨w.heap.size, 7, none⟩ = some (.int .i64 ta) := (kc _ _ (by simp; try omega)).trans (by go_simp); have v0 : w3.cell? ⟨w.heap.size + 1, 0, none⟩ = some (.int .i64 0) := (kc _ _ (by simp; try omega)).trans (by go_simp); have v1 : w3.cell? ⟨w.heap.size + 1, 1, none⟩ = some (.int .i64 0) := (kc _ _ (by simp; try omega)).trans (by go_simp); have v2 : w3.cell? ⟨w.heap.size + 1, 2, none⟩ = some (.int .i64 0) := (kc _ _ (by simp; try omega)).trans (by go_simp); have v3 : w3.cell? ⟨w.heap.size + 1, 3, none⟩ = some (.int .i64 0) := (kc _ _ (by simp; try omega)).trans (by go_simp); have v4 : w3.cell? ⟨w.heap.size + 1, 4, none⟩ = some (.int .i64 0) := (kc _ _ (by simp; try omega)).trans (by go_simp); have v5 : w3.cell? ⟨w.heap.size + 1, 5, none⟩ = some (.slice none 0 0) := (kc _ _ (by simp; try omega)).trans (by go_simp); have v6 : w3.cell? ⟨w.heap.size + 1, 6, none⟩ = some (.int .i64 0) := (kc _ _ (by simp; try omega)).trans (by go_simp); have v7 : w3.cell? ⟨w.heap.size + 1, 7, none⟩ = some (.int .i64 0) := (kc _ _ (by simp; try omega)).trans (by go_simp); have sz : ∀ o : Nat, w3.frozen? ⟨w.heap.size, o, none⟩ = false := (fun o => (kf _ _ (by simp; try omega)).trans (by go_simp)); have vz : ∀ o : Nat, w3.frozen? ⟨w.heap.size + 1, o, none⟩ = false := (fun o => (kf _ _ (by simp; try omega)).trans (by go_simp)); clear kc kf))
  obtain ⟨y, ey, cs, far, fz, zy, hbel, hon⟩ := over8 (.int .i64 3) (.int .i64 cy4) (.int .i64 sn4) (.int .i64 tp) (.int .i64 sv) (.slice a xs.length cap) (.int .i64 mt) (.int .i64 ta) (w := w3) (g := w.heap.size) s0 s1 s2 s3 s4 s5 s6 s7
  rw [← ey]
  have s0 : y.cell? ⟨w.heap.size, 0, none⟩ = some (.int .i64 3) := cs 0 _ rfl
  have s1 : y.cell? ⟨w.heap.size, 1, none⟩ = some (.int .i64 cy4) := cs 1 _ rfl
  have s2 : y.cell? ⟨w.heap.size, 2, none⟩ = some (.int .i64 sn4) := cs 2 _ rfl
  have s3 : y.cell? ⟨w.heap.size, 3, none⟩ = some (.int .i64 tp) := cs 3 _ rfl
  have s4 : y.cell? ⟨w.heap.size, 4, none⟩ = some (.int .i64 sv) := cs 4 _ rfl
  have s5 : y.cell? ⟨w.heap.size, 5, none⟩ = some (.slice a xs.length cap) := cs 5 _ rfl
  have s6 : y.cell? ⟨w.heap.size, 6, none⟩ = some (.int .i64 mt) := cs 6 _ rfl
  have s7 : y.cell? ⟨w.heap.size, 7, none⟩ = some (.int .i64 ta) := cs 7 _ rfl
  have v0 : y.cell? ⟨w.heap.size + 1, 0, none⟩ = some (.int .i64 0) := (far _ _ (by omega)).trans v0
  have v1 : y.cell? ⟨w.heap.size + 1, 1, none⟩ = some (.int .i64 0) := (far _ _ (by omega)).trans v1
  have v2 : y.cell? ⟨w.heap.size + 1, 2, none⟩ = some (.int .i64 0) := (far _ _ (by omega)).trans v2
  have v3 : y.cell? ⟨w.heap.size + 1, 3, none⟩ = some (.int .i64 0) := (far _ _ (by omega)).trans v3
  have v4 : y.cell? ⟨w.heap.size + 1, 4, none⟩ = some (.int .i64 0) := (far _ _ (by omega)).trans v4
  have v5 : y.cell? ⟨w.heap.size + 1, 5, none⟩ = some (.slice none 0 0) := (far _ _ (by omega)).trans v5
  have v6 : y.cell? ⟨w.heap.size + 1, 6, none⟩ = some (.int .i64 0) := (far _ _ (by omega)).trans v6
  have v7 : y.cell? ⟨w.heap.size + 1, 7, none⟩ = some (.int .i64 0) := (far _ _ (by omega)).trans v7
  have sz : ∀ o : Nat, y.frozen? ⟨w.heap.size, o, none⟩ = false := fun o => (fz _ _).trans (sz o)
  have vz : ∀ o : Nat, y.frozen? ⟨w.heap.size + 1, o, none⟩ = false := fun o => (fz _ _).trans (vz o)
  have hbw : Below w.heap.size w y := hbw.trans (hbel _ (Nat.le_refl _))
  have zl : w.heap.size + 1 + 1 ≤ y.heap.size := by omega
  clear ey cs far fz zy hbel hon
  by_cases kE : 10000000000 ≤ now - ta
  · obtain ⟨q1, q3⟩ := HE.1 (by omega)
    subst q1 q3
    go_wp2_with (first
      | (go_at_call 130; refine (entered_any).mono ?_; rintro e wE ⟨rfl, hbwE⟩; have hbw : Below w.heap.size w wE := below_two hbw hbwE; have s0 := (hbwE.cell (p := ⟨w.heap.size, 0, none⟩) (by show w.heap.size < _; omega)).trans s0; have s1 := (hbwE.cell (p := ⟨w.heap.size, 1, none⟩) (by show w.heap.size < _; omega)).trans s1; have s2 := (hbwE.cell (p := ⟨w.heap.size, 2, none⟩) (by show w.heap.size < _; omega)).trans s2; have s3 := (hbwE.cell (p := ⟨w.heap.size, 3, none⟩) (by show w.heap.size < _; omega)).trans s3; have s4 := (hbwE.cell (p := ⟨w.heap.size, 4, none⟩) (by show w.heap.size < _; omega)).trans s4; have s5 := (hbwE.cell (p := ⟨w.heap.size, 5, none⟩) (by show w.heap.size < _; omega)).trans s5; have s6 := (hbwE.cell (p := ⟨w.heap.size, 6, none⟩) (by show w.heap.size < _; omega)).trans s6; have s7 := (hbwE.cell (p := ⟨w.heap.size, 7, none⟩) (by show w.heap.size < _; omega)).trans s7; have v0 := (hbwE.cell (p := ⟨w.heap.size + 1, 0, none⟩) (by show w.heap.size + 1 < _; omega)).trans v0; have v1 := (hbwE.cell (p := ⟨w.heap.size + 1, 1, none⟩) (by show w.heap.size + 1 < _; omega)).trans v1; have v2 := (hbwE.cell (p := ⟨w.heap.size + 1, 2, none⟩) (by show w.heap.size + 1 < _; omega)).trans v2; have v3 := (hbwE.cell (p := ⟨w.heap.size + 1, 3, none⟩) (by show w.heap.size + 1 < _; omega)).trans v3; have v4 := (hbwE.cell (p := ⟨w.heap.size + 1, 4, none⟩) (by show w.heap.size + 1 < _; omega)).trans v4; have v5 := (hbwE.cell (p := ⟨w.heap.size + 1, 5, none⟩) (by show w.heap.size + 1 < _; omega)).trans v5; have v6 := (hbwE.cell (p := ⟨w.heap.size + 1, 6, none⟩) (by show w.heap.size + 1 < _; omega)).trans v6; have v7 := (hbwE.cell (p := ⟨w.heap.size + 1, 7, none⟩) (by show w.heap.size + 1 < _; omega)).trans v7; have vz : ∀ o : Nat, wE.frozen? ⟨w.heap.size + 1, o, none⟩ = false := fun o => (hbwE.frozen (p := ⟨w.heap.size + 1, o, none⟩) (by show w.heap.size + 1 < _; omega)).trans (vz o); have sz : ∀ o : Nat, wE.frozen? ⟨w.heap.size, o, none⟩ = false := fun o => (hbwE.frozen (p := ⟨w.heap.size, o, none⟩) (by show w.heap.size < _; omega)).trans (sz o); have zl : w.heap.size + 1 + 1 ≤ wE.heap.size := Nat.le_trans zl hbwE.size))
    obtain ⟨y, ey, cs, far, fz, zy, hbel, hon⟩ := over8 (.int .i64 4) (.int .i64 cy4) (.int .i64 now) (.int .i64 tp) (.int .i64 sv) (.slice a xs.length cap) (.int .i64 mt) (.int .i64 ta) (w := wE) (g := w.heap.size + 1) v0 v1 v2 v3 v4 v5 v6 v7
    rw [← ey]
    refine bodyPost_ret (results_one rfl _ _ _ [.int .i64 4, .int .i64 cy4, .int .i64 now, .int .i64 tp, .int .i64 sv, .slice a xs.length cap, .int .i64 mt, .int .i64 ta] rfl cs Try.underlying53 rfl (by kernel_rfl)) rfl ?_
    exact ⟨rfl, hbw.trans (hbel _ (by omega))⟩
  · obtain ⟨q1, q3⟩ := HE.2 (by omega)
    subst q1 q3
    go_wp2
    obtain ⟨y, ey, cs, far, fz, zy, hbel, hon⟩ := over8 (.int .i64 3) (.int .i64 cy4) (.int .i64 sn4) (.int .i64 tp) (.int .i64 sv) (.slice a xs.length cap) (.int .i64 mt) (.int .i64 ta) (w := y) (g := w.heap.size + 1) v0 v1 v2 v3 v4 v5 v6 v7
    rw [← ey]
    refine bodyPost_ret (results_one rfl _ _ _ [.int .i64 3, .int .i64 cy4, .int .i64 sn4, .int .i64 tp, .int .i64 sv, .slice a xs.length cap, .int .i64 mt, .int .i64 ta] rfl cs Try.underlying53 rfl (by kernel_rfl)) rfl ?_
    exact ⟨rfl, hbw.trans (hbel _ (by omega))⟩
set_option maxHeartbeats 4000000 in
theorem moved_4y {cy sn tp sv mt ta now flight : Int} {w : World} {a : Option Addr} {n cap : Nat} (r : IntKind.i64.wrap (now - sn) = now - sn) (k : 200000000 ≤ now - sn) : Calls Try.prog 93 #[.agg #[.int .i64 4, .int .i64 cy, .int .i64 sn, .int .i64 tp, .int .i64 sv, .slice a n cap, .int .i64 mt, .int .i64 ta], .int .i64 now, .int .i64 flight] w fun e w' => e = .returned (.agg #[.int .i64 3, .int .i64 0, .int .i64 now, .int .i64 tp, .int .i64 sv, .slice a n cap, .int .i64 mt, .int .i64 ta]) ∧ Below w.heap.size w w' := by
  go_enter Try.func93, Try.ntmps93
  go_wp2_with (first
    | (go_at_call 125; refine (stayed_is (f := true) r (by simp [k])).mono ?_; rintro e w2 ⟨rfl, rfl⟩)
    | (go_at_call 129; refine (cruising_any).mono ?_; rintro e w3 ⟨rfl, hbw3⟩; have hbw : Below w.heap.size w w3 := below_two (by go_grown) hbw3; have kc := below_cells4 hbw3; have kf := below_frozens4 hbw3; have zl := hbw3.size; (try simp at zl); have s0 : w3.cell? ⟨w.heap.size, 0, none⟩ = some (.int .i64 4) := (kc _ _ (by simp; try omega)).trans (by go_simp); have s1 : w3.cell? ⟨w.heap.size, 1, none⟩ = some (.int .i64 cy) := (kc _ _ (by simp; try omega)).trans (by go_simp); have s2 : w3.cell? ⟨w.heap.size, 2, none⟩ = some (.int .i64 sn) := (kc _ _ (by simp; try omega)).trans (by go_simp); have s3 : w3.cell? ⟨w.heap.size, 3, none⟩ = some (.int .i64 tp) := (kc _ _ (by simp; try omega)).trans (by go_simp); have s4 : w3.cell? ⟨w.heap.size, 4, none⟩ = some (.int .i64 sv) := (kc _ _ (by simp; try omega)).trans (by go_simp); have s5 : w3.cell? ⟨w.heap.size, 5, none⟩ = some (.slice a n cap) := (kc _ _ (by simp; try omega)).trans (by go_simp); have s6 : w3.cell? ⟨w.heap.size, 6, none⟩ = some (.int .i64 mt) := (kc _ _ (by simp; try omega)).trans (by go_simp); have s7 : w3.cell? ⟨w.heap.size, 7, none⟩ = some (.int .i64 ta) := (kc _ _ (by simp; try omega)).trans (by go_simp); have v0 : w3.cell? ⟨w.heap.size + 1, 0, none⟩ = some (.int .i64 0) := (kc _ _ (by simp; try omega)).trans (by go_simp); have v1 : w3.cell? ⟨w.heap.size + 1, 1, none⟩ = some (.int .i64 0) := (kc _ _ (by simp; try omega)).trans (by go_simp); have v2 : w3.cell? ⟨w.heap.size + 1, 2, none⟩ = some (.int .i64 0) := (kc _ _ (by simp; try omega)).trans (by go_simp); have v3 : w3.cell? ⟨w.heap.size + 1, 3, none⟩ = some (.int .i64 0) := (kc _ _ (by simp; try omega)).trans (by go_simp); have v4 : w3.cell? ⟨w.heap.size + 1, 4, none⟩ = some (.int .i64 0) := (kc _ _ (by simp; try omega)).trans (by go_simp); have v5 : w3.cell? ⟨w.heap.size + 1, 5, none⟩ = some (.slice none 0 0) := (kc _ _ (by simp; try omega)).trans (by go_simp); have v6 : w3.cell? ⟨w.heap.size + 1, 6, none⟩ = some (.int .i64 0) := (kc _ _ (by simp; try omega)).trans (by go_simp); have v7 : w3.cell? ⟨w.heap.size + 1, 7, none⟩ = some (.int .i64 0) := (kc _ _ (by simp; try omega)).trans (by go_simp); have sz : ∀ o : Nat, w3.frozen? ⟨w.heap.size, o, none⟩ = false := (fun o => (kf _ _ (by simp; try omega)).trans (by go_simp)); have vz : ∀ o : Nat, w3.frozen? ⟨w.heap.size + 1, o, none⟩ = false := (fun o => (kf _ _ (by simp; try omega)).trans (by go_simp)); clear kc kf))
  obtain ⟨y, ey, cs, far, fz, zy, hbel, hon⟩ := over8 (.int .i64 3) (.int .i64 0) (.int .i64 now) (.int .i64 tp) (.int .i64 sv) (.slice a n cap) (.int .i64 mt) (.int .i64 ta) (w := w3) (g := w.heap.size + 1) v0 v1 v2 v3 v4 v5 v6 v7
  rw [← ey]
  refine bodyPost_ret (results_one rfl _ _ _ [.int .i64 3, .int .i64 0, .int .i64 now, .int .i64 tp, .int .i64 sv, .slice a n cap, .int .i64 mt, .int .i64 ta] rfl cs Try.underlying53 rfl (by kernel_rfl)) rfl ?_
  exact ⟨rfl, hbw.trans (hbel _ (by omega))⟩
set_option maxHeartbeats 4000000 in
theorem moved_4n {cy sn tp sv mt ta now flight : Int} {w : World} {a : Option Addr} {n cap : Nat} (r : IntKind.i64.wrap (now - sn) = now - sn) (k : ¬ 200000000 ≤ now - sn) : Calls Try.prog 93 #[.agg #[.int .i64 4, .int .i64 cy, .int .i64 sn, .int .i64 tp, .int .i64 sv, .slice a n cap, .int .i64 mt, .int .i64 ta], .int .i64 now, .int .i64 flight] w fun e w' => e = .returned (.agg #[.int .i64 4, .int .i64 cy, .int .i64 sn, .int .i64 tp, .int .i64 sv, .slice a n cap, .int .i64 mt, .int .i64 ta]) ∧ Below w.heap.size w w' := by
  go_enter Try.func93, Try.ntmps93
  go_wp2_with (first
    | (go_at_call 125; refine (stayed_is (f := false) r (by simp [k])).mono ?_; rintro e w2 ⟨rfl, rfl⟩))
  refine bodyPost_ret (results_one rfl _ _ _ [.int .i64 4, .int .i64 cy, .int .i64 sn, .int .i64 tp, .int .i64 sv, .slice a n cap, .int .i64 mt, .int .i64 ta] rfl (cells_eight (by go_simp) (by go_simp) (by go_simp) (by go_simp) (by go_simp) (by go_simp) (by go_simp) (by go_simp)) Try.underlying53 rfl (by kernel_rfl)) rfl ?_
  exact ⟨rfl, by go_grown⟩
end Go.Proofs.Ytiibafphgjlffae

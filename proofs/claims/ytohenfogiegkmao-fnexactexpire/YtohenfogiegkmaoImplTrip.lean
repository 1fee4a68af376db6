/- What impl's TripOk, Measure, Wait and Expire answer. -/
import Derived.Test.YtohenfogiegkmaoSpecTrip
import Derived.Test.YtohenfogiegkmaoImplIn
namespace Go.Proofs.Ytohenfogiegkmao
open Go.ChangeShapes Go.WideShapes Go.ChangeAt Go.RowKit
set_option maxRecDepth 100000
set_option linter.unusedVariables false

set_option maxHeartbeats 2000000 in
theorem implTripOk_any (k : Bool) (s v b : Int) (w : World) : Calls Try.prog 24 #[.agg #[.bool k, .int .i64 s, .int .i64 v, .int .i64 b]] w fun e w' => e = .returned (.bool (tokB k s v b)) ∧ Below w.heap.size w w' := by
  have key : ∀ f1 f2 f3 f4 : Bool, timeB s = f1 → timeB v = f2 → backB b = f3 → noneB k s v = f4 → Calls Try.prog 24 #[.agg #[.bool k, .int .i64 s, .int .i64 v, .int .i64 b]] w fun e w' => e = .returned (.bool (((f1 && f2) && f3) && f4)) ∧ Below w.heap.size w w' := by
    intro f1 f2 f3 f4 h1 h2 h3 h4
    have h3' : (decide (0 ≤ b) && decide (b ≤ 10)) = f3 := h3
    cases f1
    · go_enter Try.func24, Try.ntmps24
      go_wp2_with (first | (go_at_call 32; refine (itime_any _ _).mono ?_; rintro e w2 ⟨rfl, rfl⟩; rw [h1]))
      go_ret
      exact ⟨rfl, by go_grown⟩
    cases f2
    · go_enter Try.func24, Try.ntmps24
      go_wp2_with (first | (go_at_call 32; have g2 := g1; refine (itime_any v _).mono ?_; rintro e w2 ⟨rfl, rfl⟩; rw [h2]) | (go_at_call 32; refine (itime_any s _).mono ?_; rintro e w2 ⟨rfl, rfl⟩; rw [h1]; have g1 := h1))
      go_ret
      exact ⟨rfl, by go_grown⟩
    cases f3
    · go_enter Try.func24, Try.ntmps24
      go_wp2_with (first | (go_at_call 32; have g2 := g1; refine (itime_any v _).mono ?_; rintro e w2 ⟨rfl, rfl⟩; rw [h2]) | (go_at_call 32; refine (itime_any s _).mono ?_; rintro e w2 ⟨rfl, rfl⟩; rw [h1]; have g1 := h1) | (go_at_call 33; refine (iwithin_any _ _ _ _).mono ?_; rintro e w2 ⟨rfl, rfl⟩; rw [h3']))
      go_ret
      exact ⟨rfl, by go_grown⟩
    cases k
    · subst h4
      by_cases hs : s = 0
      · subst hs
        have e4 : noneB false 0 v = (v == 0) := by unfold noneB; by_cases hv : v = 0 <;> simp [hv]
        rw [e4]
        go_enter Try.func24, Try.ntmps24
        go_wp2_with (first | (go_at_call 32; have g2 := g1; refine (itime_any v _).mono ?_; rintro e w2 ⟨rfl, rfl⟩; rw [h2]) | (go_at_call 32; refine (itime_any 0 _).mono ?_; rintro e w2 ⟨rfl, rfl⟩; rw [h1]; have g1 := h1) | (go_at_call 33; refine (iwithin_any _ _ _ _).mono ?_; rintro e w2 ⟨rfl, rfl⟩; rw [h3']))
        go_ret
        exact ⟨rfl, by go_grown⟩
      · have e4 : noneB false s v = false := by unfold noneB; simp [hs]
        have hs' : (s == 0) = false := by simp [hs]
        rw [e4]
        go_enter Try.func24, Try.ntmps24
        go_wp2_with (first | (go_at_call 32; have g2 := g1; refine (itime_any v _).mono ?_; rintro e w2 ⟨rfl, rfl⟩; rw [h2]) | (go_at_call 32; refine (itime_any s _).mono ?_; rintro e w2 ⟨rfl, rfl⟩; rw [h1]; have g1 := h1) | (go_at_call 33; refine (iwithin_any _ _ _ _).mono ?_; rintro e w2 ⟨rfl, rfl⟩; rw [h3']))
        go_ret
        exact ⟨rfl, by go_grown⟩
    · subst h4
      rw [show noneB true s v = true from rfl]
      go_enter Try.func24, Try.ntmps24
      go_wp2_with (first | (go_at_call 32; have g2 := g1; refine (itime_any v _).mono ?_; rintro e w2 ⟨rfl, rfl⟩; rw [h2]) | (go_at_call 32; refine (itime_any s _).mono ?_; rintro e w2 ⟨rfl, rfl⟩; rw [h1]; have g1 := h1) | (go_at_call 33; refine (iwithin_any _ _ _ _).mono ?_; rintro e w2 ⟨rfl, rfl⟩; rw [h3']))
      go_ret
      exact ⟨rfl, by go_grown⟩
  exact key _ _ _ _ rfl rfl rfl rfl
theorem implTripOk_is {k : Bool} {s v b : Int} {f : Bool} (h : tokB k s v b = f) (w : World) : Calls Try.prog 24 #[.agg #[.bool k, .int .i64 s, .int .i64 v, .int .i64 b]] w fun e w' => e = .returned (.bool f) ∧ Below w.heap.size w w' := by
  subst h; exact implTripOk_any k s v b w
/-! Measure -/
def weiOf (p x y : Int) : Int := ((p - 1) * x + y) / p
/-- A variable that a closure holds: one number, not shared with a string. -/
def NumAt (w : World) (g : Nat) (x : Int) : Prop := w.cell? ⟨g, 0, none⟩ = some (.int .i64 x) ∧ w.frozen? ⟨g, 0, none⟩ = false ∧ g < w.heap.size
def NxPost (x : Int) (g : Nat) (w : World) (e : Ending) (w' : World) : Prop := e = .returned (.int .i64 x) ∧ NumAt w' g (min (2 * x) 60000000000) ∧ (∀ B, B ≤ g → Below B w w') ∧ (∀ k o : Nat, k ≠ g → w'.cell? ⟨k, o, none⟩ = w.cell? ⟨k, o, none⟩)
theorem wait_next {X : Int} (h0 : 0 ≤ X) (h1 : X ≤ 5000000000000000) (j : Nat) : min (2 * min (dblT X j) 60000000000) 60000000000 = min (dblT X (j + 1)) 60000000000 := by
  rw [dbl_succ]; omega
theorem dbl_nn {X : Int} (h0 : 0 ≤ X) (j : Nat) : 0 ≤ dblT X j := by
  induction j with
  | zero => rw [dbl_zero]; exact h0
  | succ j ih => rw [dbl_succ]; omega
set_option maxHeartbeats 2000000 in
theorem implExpire_no (k : Bool) (s v b : Int) (w : World) (h1 : tokB k s v b = false) : Calls Try.prog 10 #[.agg #[.bool k, .int .i64 s, .int .i64 v, .int .i64 b]] w fun e w' => e = .returned (trV (false, 0, 0, 0)) ∧ Below w.heap.size w w' := by
  go_enter Try.func10, Try.ntmps10
  go_wp2_with (first | (go_at_call 24; refine (implTripOk_is h1 _).mono ?_; rintro e w2 ⟨rfl, hb2⟩; have kc := below_cells4 hb2; have kf := below_frozens4 hb2; have hbw := start2 hb2; have zb := size2b hb2))
  obtain ⟨w9, e9, c0, c1, c2, c3, far, fz, sz, hbel⟩ := over4 (.bool false) (.int .i64 0) (.int .i64 0) (.int .i64 0) (w := w2) (g := w.heap.size + 1) (u0 := .bool false) (u1 := .int .i64 0) (u2 := .int .i64 0) (u3 := .int .i64 0) (by go_simp) (by go_simp) (by go_simp) (by go_simp)
  rw [← e9]
  refine bodyPost_ret (results_one rfl _ _ _ [.bool false, .int .i64 0, .int .i64 0, .int .i64 0] rfl (cells_four c0 c1 c2 c3) Try.underlying24 rfl (by kernel_rfl)) rfl ?_
  exact ⟨rfl, hbw.trans (hbel _ (by omega))⟩
set_option maxHeartbeats 2000000 in
theorem implExpire_yes (k : Bool) (s v b y : Int) (w : World) (h1 : tokB k s v b = true) (hy : y = min 10 (b + 1)) : Calls Try.prog 10 #[.agg #[.bool k, .int .i64 s, .int .i64 v, .int .i64 b]] w fun e w' => e = .returned (trV (k, s, v, y)) ∧ Below w.heap.size w w' := by
  obtain ⟨⟨s0, s1⟩, ⟨v0, v1⟩, m0, m1⟩ := tok_num h1
  have r1 : IntKind.i64.wrap (b + 1) = b + 1 := by rw [IntKind.wrap_i64]; omega
  have hyy : y = b + 1 ∧ b + 1 < 10 ∨ y = 10 ∧ b = 9 ∨ y = 10 ∧ b = 10 := by omega
  clear hy
  rcases hyy with ⟨rfl, hlt⟩ | ⟨rfl, rfl⟩ | ⟨rfl, rfl⟩
  · go_enter Try.func10, Try.ntmps10
    go_wp2_with (first
      | (go_at_call 24; refine (implTripOk_is h1 _).mono ?_; rintro e w2 ⟨rfl, hb2⟩; have kc := below_cells4 hb2; have kf := below_frozens4 hb2; have hbw := start2 hb2; have zb := size2b hb2; have p3 : w2.cell? ⟨w.heap.size, 3, none⟩ = some (.int .i64 _) := (kc _ _ (by simp; omega)).trans (by go_simp; rfl); have ps := fun y : Int => set_same4 (.int .i64 y) p3))
    obtain ⟨w9, e9, c0, c1, c2, c3, far, fz, sz, hbel⟩ := over4 (.bool k) (.int .i64 s) (.int .i64 v) (.int .i64 (b + 1)) (w := w2.setCell ⟨w.heap.size, 3, none⟩ (.int .i64 (b + 1))) (g := w.heap.size + 1) (u0 := .bool false) (u1 := .int .i64 0) (u2 := .int .i64 0) (u3 := .int .i64 0) (by go_simp) (by go_simp) (by go_simp) (by go_simp)
    rw [← e9]
    refine bodyPost_ret (results_one rfl _ _ _ [.bool k, .int .i64 s, .int .i64 v, .int .i64 (b + 1)] rfl (cells_four c0 c1 c2 c3) Try.underlying24 rfl (by kernel_rfl)) rfl ?_
    exact ⟨rfl, (hbw.setCell (by exact Nat.le_refl _) _).trans (hbel _ (by omega))⟩
  · go_enter Try.func10, Try.ntmps10
    go_wp2_with (first
      | (go_at_call 24; refine (implTripOk_is h1 _).mono ?_; rintro e w2 ⟨rfl, hb2⟩; have kc := below_cells4 hb2; have kf := below_frozens4 hb2; have hbw := start2 hb2; have zb := size2b hb2; have p3 : w2.cell? ⟨w.heap.size, 3, none⟩ = some (.int .i64 _) := (kc _ _ (by simp; omega)).trans (by go_simp; rfl); have ps := fun y : Int => set_same4 (.int .i64 y) p3))
    obtain ⟨w9, e9, c0, c1, c2, c3, far, fz, sz, hbel⟩ := over4 (.bool k) (.int .i64 s) (.int .i64 v) (.int .i64 10) (w := w2.setCell ⟨w.heap.size, 3, none⟩ (.int .i64 10)) (g := w.heap.size + 1) (u0 := .bool false) (u1 := .int .i64 0) (u2 := .int .i64 0) (u3 := .int .i64 0) (by go_simp) (by go_simp) (by go_simp) (by go_simp)
    rw [← e9]
    refine bodyPost_ret (results_one rfl _ _ _ [.bool k, .int .i64 s, .int .i64 v, .int .i64 10] rfl (cells_four c0 c1 c2 c3) Try.underlying24 rfl (by kernel_rfl)) rfl ?_
    exact ⟨rfl, (hbw.setCell (by exact Nat.le_refl _) _).trans (hbel _ (by omega))⟩
  · go_enter Try.func10, Try.ntmps10
    go_wp2_with (first
      | (go_at_call 24; refine (implTripOk_is h1 _).mono ?_; rintro e w2 ⟨rfl, hb2⟩; have kc := below_cells4 hb2; have kf := below_frozens4 hb2; have hbw := start2 hb2; have zb := size2b hb2; have p3 : w2.cell? ⟨w.heap.size, 3, none⟩ = some (.int .i64 _) := (kc _ _ (by simp; omega)).trans (by go_simp; rfl); have ps := fun y : Int => set_same4 (.int .i64 y) p3))
    obtain ⟨w9, e9, c0, c1, c2, c3, far, fz, sz, hbel⟩ := over4 (.bool k) (.int .i64 s) (.int .i64 v) (.int .i64 10) (w := w2.setCell ⟨w.heap.size, 3, none⟩ (.int .i64 10)) (g := w.heap.size + 1) (u0 := .bool false) (u1 := .int .i64 0) (u2 := .int .i64 0) (u3 := .int .i64 0) (by go_simp) (by go_simp) (by go_simp) (by go_simp)
    rw [← e9]
    refine bodyPost_ret (results_one rfl _ _ _ [.bool k, .int .i64 s, .int .i64 v, .int .i64 10] rfl (cells_four c0 c1 c2 c3) Try.underlying24 rfl (by kernel_rfl)) rfl ?_
    exact ⟨rfl, (hbw.setCell (by exact Nat.le_refl _) _).trans (hbel _ (by omega))⟩
theorem implExpire_any (k : Bool) (s v b : Int) (w : World) : Calls Try.prog 10 #[.agg #[.bool k, .int .i64 s, .int .i64 v, .int .i64 b]] w fun e w' => e = .returned (trV (expOf k s v b)) ∧ Below w.heap.size w w' := by
  cases h : tokB k s v b
  · rw [show expOf k s v b = (false, 0, 0, 0) from if_neg (by rw [h]; decide)]
    exact implExpire_no k s v b w h
  · rw [show expOf k s v b = (k, s, v, min 10 (b + 1)) from if_pos h]
    exact implExpire_yes k s v b _ w h rfl
end Go.Proofs.Ytohenfogiegkmao

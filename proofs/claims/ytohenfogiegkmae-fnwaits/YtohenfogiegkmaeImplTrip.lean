/- What impl's TripOk, Measure, Wait and Expire answer. -/
import Derived.Test.YtohenfogiegkmaeSpecTrip
import Derived.Test.YtohenfogiegkmaeImplIn
namespace Go.Proofs.Ytohenfogiegkmae
open Go.ChangeShapes Go.WideShapes Go.ChangeAt Go.RowKit
set_option maxRecDepth 100000
set_option linter.unusedVariables false

set_option maxHeartbeats 2000000 in
theorem implTripOk_any (k : Bool) (s v b : Int) (w : World) : Calls Try.prog 8 #[.agg #[.bool k, .int .i64 s, .int .i64 v, .int .i64 b]] w fun e w' => e = .returned (.bool (tokB k s v b)) ∧ Below w.heap.size w w' := by
  have key : ∀ f1 f2 f3 f4 : Bool, timeB s = f1 → timeB v = f2 → backB b = f3 → noneB k s v = f4 → Calls Try.prog 8 #[.agg #[.bool k, .int .i64 s, .int .i64 v, .int .i64 b]] w fun e w' => e = .returned (.bool (((f1 && f2) && f3) && f4)) ∧ Below w.heap.size w w' := by
    intro f1 f2 f3 f4 h1 h2 h3 h4
    have h3' : (decide (0 ≤ b) && decide (b ≤ 10)) = f3 := h3
    cases f1
    · go_enter Try.func8, Try.ntmps8
      go_wp2_with (first | (go_at_call 15; refine (itime_any _ _).mono ?_; rintro e w2 ⟨rfl, rfl⟩; rw [h1]))
      go_ret
      exact ⟨rfl, by go_grown⟩
    cases f2
    · go_enter Try.func8, Try.ntmps8
      go_wp2_with (first | (go_at_call 15; have g2 := g1; refine (itime_any v _).mono ?_; rintro e w2 ⟨rfl, rfl⟩; rw [h2]) | (go_at_call 15; refine (itime_any s _).mono ?_; rintro e w2 ⟨rfl, rfl⟩; rw [h1]; have g1 := h1))
      go_ret
      exact ⟨rfl, by go_grown⟩
    cases f3
    · go_enter Try.func8, Try.ntmps8
      go_wp2_with (first | (go_at_call 15; have g2 := g1; refine (itime_any v _).mono ?_; rintro e w2 ⟨rfl, rfl⟩; rw [h2]) | (go_at_call 15; refine (itime_any s _).mono ?_; rintro e w2 ⟨rfl, rfl⟩; rw [h1]; have g1 := h1) | (go_at_call 16; refine (iwithin_any _ _ _ _).mono ?_; rintro e w2 ⟨rfl, rfl⟩; rw [h3']))
      go_ret
      exact ⟨rfl, by go_grown⟩
    cases k
    · subst h4
      by_cases hs : s = 0
      · subst hs
        have e4 : noneB false 0 v = (v == 0) := by unfold noneB; by_cases hv : v = 0 <;> simp [hv]
        rw [e4]
        go_enter Try.func8, Try.ntmps8
        go_wp2_with (first | (go_at_call 15; have g2 := g1; refine (itime_any v _).mono ?_; rintro e w2 ⟨rfl, rfl⟩; rw [h2]) | (go_at_call 15; refine (itime_any 0 _).mono ?_; rintro e w2 ⟨rfl, rfl⟩; rw [h1]; have g1 := h1) | (go_at_call 16; refine (iwithin_any _ _ _ _).mono ?_; rintro e w2 ⟨rfl, rfl⟩; rw [h3']))
        go_ret
        exact ⟨rfl, by go_grown⟩
      · have e4 : noneB false s v = false := by unfold noneB; simp [hs]
        have hs' : (s == 0) = false := by simp [hs]
        rw [e4]
        go_enter Try.func8, Try.ntmps8
        go_wp2_with (first | (go_at_call 15; have g2 := g1; refine (itime_any v _).mono ?_; rintro e w2 ⟨rfl, rfl⟩; rw [h2]) | (go_at_call 15; refine (itime_any s _).mono ?_; rintro e w2 ⟨rfl, rfl⟩; rw [h1]; have g1 := h1) | (go_at_call 16; refine (iwithin_any _ _ _ _).mono ?_; rintro e w2 ⟨rfl, rfl⟩; rw [h3']))
        go_ret
        exact ⟨rfl, by go_grown⟩
    · subst h4
      rw [show noneB true s v = true from rfl]
      go_enter Try.func8, Try.ntmps8
      go_wp2_with (first | (go_at_call 15; have g2 := g1; refine (itime_any v _).mono ?_; rintro e w2 ⟨rfl, rfl⟩; rw [h2]) | (go_at_call 15; refine (itime_any s _).mono ?_; rintro e w2 ⟨rfl, rfl⟩; rw [h1]; have g1 := h1) | (go_at_call 16; refine (iwithin_any _ _ _ _).mono ?_; rintro e w2 ⟨rfl, rfl⟩; rw [h3']))
      go_ret
      exact ⟨rfl, by go_grown⟩
  exact key _ _ _ _ rfl rfl rfl rfl
theorem implTripOk_is {k : Bool} {s v b : Int} {f : Bool} (h : tokB k s v b = f) (w : World) : Calls Try.prog 8 #[.agg #[.bool k, .int .i64 s, .int .i64 v, .int .i64 b]] w fun e w' => e = .returned (.bool f) ∧ Below w.heap.size w w' := by
  subst h; exact implTripOk_any k s v b w
/-! Measure -/
def weiOf (p x y : Int) : Int := ((p - 1) * x + y) / p
theorem plainWait_any (k : Bool) (s v b : Int) (w : World) (hs : 0 ≤ s ∧ s ≤ 1000000000000000) (hv : 0 ≤ v ∧ v ≤ 1000000000000000) : Calls Try.prog 19 #[.agg #[.bool k, .int .i64 s, .int .i64 v, .int .i64 b]] w fun e w' => e = .returned (.int .i64 (baseT k s v)) ∧ Below w.heap.size w w' := by
  cases k
  · rw [show baseT false s v = 1000000000 from rfl]
    go_enter Try.func19, Try.ntmps19
    go_wp2
    go_ret
    exact ⟨rfl, by go_grown⟩
  · have HX : Hid (baseT true s v = max 200000000 (s + max (4 * v) 1000000)) := rfl
    obtain ⟨X, hX⟩ : ∃ X, baseT true s v = X := ⟨_, rfl⟩
    rw [hX] at HX ⊢
    clear hX
    have r1 : IntKind.i64.wrap (4 * v) = 4 * v := by rw [IntKind.wrap_i64]; omega
    by_cases h1 : 4 * v < 1000000
    · have r2 : IntKind.i64.wrap (s + 1000000) = s + 1000000 := by rw [IntKind.wrap_i64]; omega
      by_cases h2 : s + 1000000 < 200000000
      · obtain rfl : X = 200000000 := by have := HX.out; omega
        go_enter Try.func19, Try.ntmps19
        go_wp2
        go_ret
        exact ⟨rfl, by go_grown⟩
      · obtain rfl : X = s + 1000000 := by have := HX.out; omega
        go_enter Try.func19, Try.ntmps19
        go_wp2
        all_goals go_ret
        all_goals exact ⟨ret_int (by omega), by go_grown⟩
    · have r2 : IntKind.i64.wrap (s + 4 * v) = s + 4 * v := by rw [IntKind.wrap_i64]; omega
      by_cases h2 : s + 4 * v < 200000000
      · obtain rfl : X = 200000000 := by have := HX.out; omega
        go_enter Try.func19, Try.ntmps19
        go_wp2
        all_goals go_ret
        all_goals exact ⟨ret_int (by omega), by go_grown⟩
      · obtain rfl : X = s + 4 * v := by have := HX.out; omega
        go_enter Try.func19, Try.ntmps19
        go_wp2
        all_goals go_ret
        all_goals exact ⟨ret_int (by omega), by go_grown⟩
/-- A variable that a closure holds: one number, not shared with a string. -/
def NumAt (w : World) (g : Nat) (x : Int) : Prop := w.cell? ⟨g, 0, none⟩ = some (.int .i64 x) ∧ w.frozen? ⟨g, 0, none⟩ = false ∧ g < w.heap.size
def WoPost (X : Int) (w : World) (e : Ending) (w' : World) : Prop := ∃ g, e = .returned (.func (.func 20) #[] #[.pointer (some ⟨g, 0, none⟩)]) ∧ w.heap.size ≤ g ∧ NumAt w' g (min X 60000000000) ∧ Below w.heap.size w w'
set_option maxHeartbeats 1000000 in
theorem waitsOf_any (k : Bool) (s v b : Int) (w : World) (hs : 0 ≤ s ∧ s ≤ 1000000000000000) (hv : 0 ≤ v ∧ v ≤ 1000000000000000) : Calls Try.prog 11 #[.agg #[.bool k, .int .i64 s, .int .i64 v, .int .i64 b]] w (WoPost (baseT k s v) w) := by
  have hp := fun w => plainWait_any k s v b w hs hv
  generalize baseT k s v = X at hp ⊢
  by_cases h : X < 60000000000
  · have e0 : min X 60000000000 = X := by omega
    go_enter Try.func11, Try.ntmps11
    go_wp2_with (first | (go_at_call 19; refine (hp _).mono ?_; rintro e w2 ⟨rfl, hb2⟩; have hbw := start1 hb2))
    go_ret
    exact ⟨w2.heap.size, rfl, hbw.size, ⟨by rw [e0]; go_simp, by go_simp, by simp⟩, below_two hbw (by go_grown)⟩
  · have e0 : min X 60000000000 = 60000000000 := by omega
    rcases Int.lt_or_eq_of_le (show 60000000000 ≤ X by omega) with h' | rfl
    · go_enter Try.func11, Try.ntmps11
      go_wp2_with (first | (go_at_call 19; refine (hp _).mono ?_; rintro e w2 ⟨rfl, hb2⟩; have hbw := start1 hb2))
      go_ret
      exact ⟨w2.heap.size, rfl, hbw.size, ⟨by rw [e0]; go_simp, by go_simp, by simp⟩, below_two hbw (by go_grown)⟩
    · go_enter Try.func11, Try.ntmps11
      go_wp2_with (first | (go_at_call 19; refine (hp _).mono ?_; rintro e w2 ⟨rfl, hb2⟩; have hbw := start1 hb2))
      go_ret
      exact ⟨w2.heap.size, rfl, hbw.size, ⟨by rw [e0]; go_simp, by go_simp, by simp⟩, below_two hbw (by go_grown)⟩
def NxPost (x : Int) (g : Nat) (w : World) (e : Ending) (w' : World) : Prop := e = .returned (.int .i64 x) ∧ NumAt w' g (min (2 * x) 60000000000) ∧ (∀ B, B ≤ g → Below B w w') ∧ (∀ k o : Nat, k ≠ g → w'.cell? ⟨k, o, none⟩ = w.cell? ⟨k, o, none⟩)
theorem next_any {w : World} {g : Nat} {x : Int} (h : NumAt w g x) (h0 : 0 ≤ x) (h1 : x ≤ 60000000000) : Calls Try.prog 20 #[.pointer (some ⟨g, 0, none⟩)] w (NxPost x g w) := by
  obtain ⟨c0, f0, z0⟩ := h
  have r1 : IntKind.i64.wrap (2 * x) = 2 * x := by rw [IntKind.wrap_i64]; omega
  have fin : ∀ y : Int, min (2 * x) 60000000000 = y → NxPost x g w (.returned (.int .i64 x)) (w.setCell ⟨g, 0, none⟩ (.int .i64 y)) := by
    intro y hy
    refine ⟨rfl, ⟨?_, ?_, ?_⟩, ?_, ?_⟩
    · rw [hy]; exact set_same4 _ c0
    · simpa using f0
    · simpa using z0
    · intro B hB; exact (Below.refl B w).setCell (by exact hB) _
    · intro k o hk
      exact World.cell?_setCell_other _ _ _ _ (fun e => hk (by injection e with e; exact e.symm))
  by_cases h : 2 * x < 60000000000
  · go_enter Try.func20, Try.ntmps20
    go_wp2
    go_ret
    exact fin _ (by omega)
  · rcases Int.lt_or_eq_of_le (show 60000000000 ≤ 2 * x by omega) with h' | h'
    · go_enter Try.func20, Try.ntmps20
      go_wp2
      go_ret
      exact fin _ (by omega)
    · obtain rfl : x = 30000000000 := by omega
      go_enter Try.func20, Try.ntmps20
      go_wp2
      go_ret
      exact fin _ (by omega)
theorem wait_next {X : Int} (h0 : 0 ≤ X) (h1 : X ≤ 5000000000000000) (j : Nat) : min (2 * min (dblT X j) 60000000000) 60000000000 = min (dblT X (j + 1)) 60000000000 := by
  rw [dbl_succ]; omega
theorem dbl_nn {X : Int} (h0 : 0 ≤ X) (j : Nat) : 0 ≤ dblT X j := by
  induction j with
  | zero => rw [dbl_zero]; exact h0
  | succ j ih => rw [dbl_succ]; omega
set_option maxHeartbeats 1000000 in
theorem implWait_no (k : Bool) (s v b : Int) (w : World) (h1 : tokB k s v b = false) : Calls Try.prog 6 #[.agg #[.bool k, .int .i64 s, .int .i64 v, .int .i64 b]] w fun e w' => e = .returned (.int .i64 (-1)) ∧ Below w.heap.size w w' := by
  go_enter Try.func6, Try.ntmps6
  go_wp2_with (first | (go_at_call 8; refine (implTripOk_is h1 _).mono ?_; rintro e w2 ⟨rfl, hb2⟩; have hbw := start1 hb2))
  go_ret
  exact ⟨rfl, hbw⟩
set_option maxHeartbeats 2000000 in
theorem implWait_yes (k : Bool) (s v : Int) (m : Nat) (w : World) (h1 : tokB k s v (m : Int) = true) : Calls Try.prog 6 #[.agg #[.bool k, .int .i64 s, .int .i64 v, .int .i64 (m : Int)]] w fun e w' => e = .returned (.int .i64 (min 60000000000 (dblT (baseT k s v) m))) ∧ Below w.heap.size w w' := by
  obtain ⟨hs, hv, m0, m1⟩ := tok_num h1
  obtain ⟨x0, x1⟩ := base_bd (k := k) hs hv
  have hwo := fun w => waitsOf_any k s v (m : Int) w hs hv
  generalize baseT k s v = X at x0 x1 hwo ⊢
  have HB : Hid (∀ j : Nat, 0 ≤ dblT X j) := dbl_nn x0
  have HN : Hid (∀ j : Nat, min (2 * min (dblT X j) 60000000000) 60000000000 = min (dblT X (j + 1)) 60000000000) := wait_next x0 x1
  clear x0 x1 hs hv
  go_enter Try.func6, Try.ntmps6
  go_wp2_with (first
    | (go_at_call 8; refine (implTripOk_is h1 _).mono ?_; rintro e w2 ⟨rfl, hb2⟩; have hbw := start1 hb2; have kc := below_cells4 hb2; have kf := below_frozens4 hb2; have z2 : w.heap.size < w2.heap.size := (by have := hb2.size; simp at this; omega))
    | (go_at_call 11; refine (hwo _).mono ?_; rintro e w3 ⟨g, rfl, hg, hnum, hb3⟩; have hbw3 := below_two hbw hb3; have q3 : w3.cell? ⟨w.heap.size, 3, none⟩ = some (.int .i64 (m : Int)) := (below_cells4 hb3 _ _ z2).trans (by go_simp)))
  have HG : Hid (NumAt w3 g (min X 60000000000)) := hnum
  have hwg : w.heap.size ≤ g := by omega
  clear hnum kc kf
  go_loopw [11] (fun i wr => ∃ j : Nat, i = .int .i64 j ∧ j ≤ m ∧ Hid (NumAt wr g (min (dblT X j) 60000000000)) ∧ Below w.heap.size w wr) (fun i _ => m - (intOf i).toNat)
  case atStart => exact ⟨0, rfl, by omega, by rw [dbl_zero]; exact HG, hbw3⟩
  case round =>
    obtain ⟨j, rfl, hj, HJ, hbj⟩ := hrel
    have hc := next_any HJ.out (by have := HB.out j; omega) (by omega)
    by_cases hlt : j < m
    · have hlt' : (j : Int) < (m : Int) := by omega
      go_wp2_with (first | (go_at_call 20; refine hc.mono ?_; rintro e w4 ⟨rfl, hn4, hb4, _⟩))
      go_roundw
      case rel => exact ⟨j + 1, by go_num, by omega, by rw [← HN.out]; exact hn4, hbj.trans (hb4 _ hwg)⟩
      case measure => first | (simp [intOf]; done) | (simp [intOf]; omega)
    · obtain rfl : j = m := by omega
      go_wp2_with (first | (go_at_call 20; refine hc.mono ?_; rintro e w4 ⟨rfl, hn4, hb4, _⟩))
      go_ret
      exact ⟨ret_int (Int.min_comm _ _), hbj.trans (hb4 _ hwg)⟩
theorem implWait_any (k : Bool) (s v b : Int) (w : World) : Calls Try.prog 6 #[.agg #[.bool k, .int .i64 s, .int .i64 v, .int .i64 b]] w fun e w' => e = .returned (.int .i64 (waitOf9 k s v b)) ∧ Below w.heap.size w w' := by
  cases h : tokB k s v b
  · rw [show waitOf9 k s v b = -1 from if_neg (by rw [h]; decide)]
    exact implWait_no k s v b w h
  · rw [show waitOf9 k s v b = min 60000000000 (dblT (baseT k s v) b.toNat) from if_pos h]
    obtain ⟨m, rfl⟩ : ∃ m : Nat, b = m := ⟨b.toNat, by have := tok_num h; omega⟩
    rw [Int.toNat_natCast]
    exact implWait_yes k s v m w h
/-! Expire -/
set_option maxHeartbeats 2000000 in
theorem implExpire_no (k : Bool) (s v b : Int) (w : World) (h1 : tokB k s v b = false) : Calls Try.prog 9 #[.agg #[.bool k, .int .i64 s, .int .i64 v, .int .i64 b]] w fun e w' => e = .returned (trV (false, 0, 0, 0)) ∧ Below w.heap.size w w' := by
  go_enter Try.func9, Try.ntmps9
  go_wp2_with (first | (go_at_call 8; refine (implTripOk_is h1 _).mono ?_; rintro e w2 ⟨rfl, hb2⟩; have kc := below_cells4 hb2; have kf := below_frozens4 hb2; have hbw := start2 hb2; have zb := size2b hb2))
  obtain ⟨w9, e9, c0, c1, c2, c3, far, fz, sz, hbel⟩ := over4 (.bool false) (.int .i64 0) (.int .i64 0) (.int .i64 0) (w := w2) (g := w.heap.size + 1) (u0 := .bool false) (u1 := .int .i64 0) (u2 := .int .i64 0) (u3 := .int .i64 0) (by go_simp) (by go_simp) (by go_simp) (by go_simp)
  rw [← e9]
  refine bodyPost_ret (results_one rfl _ _ _ [.bool false, .int .i64 0, .int .i64 0, .int .i64 0] rfl (cells_four c0 c1 c2 c3) Try.underlying25 rfl (by kernel_rfl)) rfl ?_
  exact ⟨rfl, hbw.trans (hbel _ (by omega))⟩
set_option maxHeartbeats 2000000 in
theorem implExpire_yes (k : Bool) (s v b y : Int) (w : World) (h1 : tokB k s v b = true) (hy : y = min 10 (b + 1)) : Calls Try.prog 9 #[.agg #[.bool k, .int .i64 s, .int .i64 v, .int .i64 b]] w fun e w' => e = .returned (trV (k, s, v, y)) ∧ Below w.heap.size w w' := by
  obtain ⟨⟨s0, s1⟩, ⟨v0, v1⟩, m0, m1⟩ := tok_num h1
  have r1 : IntKind.i64.wrap (b + 1) = b + 1 := by rw [IntKind.wrap_i64]; omega
  have hyy : y = b + 1 ∧ b + 1 < 10 ∨ y = 10 ∧ b = 9 ∨ y = 10 ∧ b = 10 := by omega
  clear hy
  rcases hyy with ⟨rfl, hlt⟩ | ⟨rfl, rfl⟩ | ⟨rfl, rfl⟩
  · go_enter Try.func9, Try.ntmps9
    go_wp2_with (first
      | (go_at_call 8; refine (implTripOk_is h1 _).mono ?_; rintro e w2 ⟨rfl, hb2⟩; have kc := below_cells4 hb2; have kf := below_frozens4 hb2; have hbw := start2 hb2; have zb := size2b hb2; have p3 : w2.cell? ⟨w.heap.size, 3, none⟩ = some (.int .i64 _) := (kc _ _ (by simp; omega)).trans (by go_simp; rfl); have ps := fun y : Int => set_same4 (.int .i64 y) p3))
    obtain ⟨w9, e9, c0, c1, c2, c3, far, fz, sz, hbel⟩ := over4 (.bool k) (.int .i64 s) (.int .i64 v) (.int .i64 (b + 1)) (w := w2.setCell ⟨w.heap.size, 3, none⟩ (.int .i64 (b + 1))) (g := w.heap.size + 1) (u0 := .bool false) (u1 := .int .i64 0) (u2 := .int .i64 0) (u3 := .int .i64 0) (by go_simp) (by go_simp) (by go_simp) (by go_simp)
    rw [← e9]
    refine bodyPost_ret (results_one rfl _ _ _ [.bool k, .int .i64 s, .int .i64 v, .int .i64 (b + 1)] rfl (cells_four c0 c1 c2 c3) Try.underlying25 rfl (by kernel_rfl)) rfl ?_
    exact ⟨rfl, (hbw.setCell (by exact Nat.le_refl _) _).trans (hbel _ (by omega))⟩
  · go_enter Try.func9, Try.ntmps9
    go_wp2_with (first
      | (go_at_call 8; refine (implTripOk_is h1 _).mono ?_; rintro e w2 ⟨rfl, hb2⟩; have kc := below_cells4 hb2; have kf := below_frozens4 hb2; have hbw := start2 hb2; have zb := size2b hb2; have p3 : w2.cell? ⟨w.heap.size, 3, none⟩ = some (.int .i64 _) := (kc _ _ (by simp; omega)).trans (by go_simp; rfl); have ps := fun y : Int => set_same4 (.int .i64 y) p3))
    obtain ⟨w9, e9, c0, c1, c2, c3, far, fz, sz, hbel⟩ := over4 (.bool k) (.int .i64 s) (.int .i64 v) (.int .i64 10) (w := w2.setCell ⟨w.heap.size, 3, none⟩ (.int .i64 10)) (g := w.heap.size + 1) (u0 := .bool false) (u1 := .int .i64 0) (u2 := .int .i64 0) (u3 := .int .i64 0) (by go_simp) (by go_simp) (by go_simp) (by go_simp)
    rw [← e9]
    refine bodyPost_ret (results_one rfl _ _ _ [.bool k, .int .i64 s, .int .i64 v, .int .i64 10] rfl (cells_four c0 c1 c2 c3) Try.underlying25 rfl (by kernel_rfl)) rfl ?_
    exact ⟨rfl, (hbw.setCell (by exact Nat.le_refl _) _).trans (hbel _ (by omega))⟩
  · go_enter Try.func9, Try.ntmps9
    go_wp2_with (first
      | (go_at_call 8; refine (implTripOk_is h1 _).mono ?_; rintro e w2 ⟨rfl, hb2⟩; have kc := below_cells4 hb2; have kf := below_frozens4 hb2; have hbw := start2 hb2; have zb := size2b hb2; have p3 : w2.cell? ⟨w.heap.size, 3, none⟩ = some (.int .i64 _) := (kc _ _ (by simp; omega)).trans (by go_simp; rfl); have ps := fun y : Int => set_same4 (.int .i64 y) p3))
    obtain ⟨w9, e9, c0, c1, c2, c3, far, fz, sz, hbel⟩ := over4 (.bool k) (.int .i64 s) (.int .i64 v) (.int .i64 10) (w := w2.setCell ⟨w.heap.size, 3, none⟩ (.int .i64 10)) (g := w.heap.size + 1) (u0 := .bool false) (u1 := .int .i64 0) (u2 := .int .i64 0) (u3 := .int .i64 0) (by go_simp) (by go_simp) (by go_simp) (by go_simp)
    rw [← e9]
    refine bodyPost_ret (results_one rfl _ _ _ [.bool k, .int .i64 s, .int .i64 v, .int .i64 10] rfl (cells_four c0 c1 c2 c3) Try.underlying25 rfl (by kernel_rfl)) rfl ?_
    exact ⟨rfl, (hbw.setCell (by exact Nat.le_refl _) _).trans (hbel _ (by omega))⟩
theorem implExpire_any (k : Bool) (s v b : Int) (w : World) : Calls Try.prog 9 #[.agg #[.bool k, .int .i64 s, .int .i64 v, .int .i64 b]] w fun e w' => e = .returned (trV (expOf k s v b)) ∧ Below w.heap.size w w' := by
  cases h : tokB k s v b
  · rw [show expOf k s v b = (false, 0, 0, 0) from if_neg (by rw [h]; decide)]
    exact implExpire_no k s v b w h
  · rw [show expOf k s v b = (k, s, v, min 10 (b + 1)) from if_pos h]
    exact implExpire_yes k s v b _ w h rfl
end Go.Proofs.Ytohenfogiegkmae

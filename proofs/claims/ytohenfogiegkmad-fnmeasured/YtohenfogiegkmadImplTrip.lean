/- What impl's TripOk, Measure, Wait and Expire answer. -/
import Derived.Test.YtohenfogiegkmadSpecTrip
import Derived.Test.YtohenfogiegkmadImplIn
namespace Go.Proofs.Ytohenfogiegkmad
open Go.ChangeShapes Go.WideShapes Go.ChangeAt Go.RowKit
set_option maxRecDepth 100000
set_option linter.unusedVariables false

set_option maxHeartbeats 2000000 in
theorem implTripOk_any (k : Bool) (s v b : Int) (w : World) : Calls Try.prog 45 #[.agg #[.bool k, .int .i64 s, .int .i64 v, .int .i64 b]] w fun e w' => e = .returned (.bool (tokB k s v b)) ∧ Below w.heap.size w w' := by
  have key : ∀ f1 f2 f3 f4 : Bool, timeB s = f1 → timeB v = f2 → backB b = f3 → noneB k s v = f4 → Calls Try.prog 45 #[.agg #[.bool k, .int .i64 s, .int .i64 v, .int .i64 b]] w fun e w' => e = .returned (.bool (((f1 && f2) && f3) && f4)) ∧ Below w.heap.size w w' := by
    intro f1 f2 f3 f4 h1 h2 h3 h4
    have h3' : (decide (0 ≤ b) && decide (b ≤ 10)) = f3 := h3
    cases f1
    · go_enter Try.func45, Try.ntmps45
      go_wp2_with (first | (go_at_call 91; refine (itime_any _ _).mono ?_; rintro e w2 ⟨rfl, rfl⟩; rw [h1]))
      go_ret
      exact ⟨rfl, by go_grown⟩
    cases f2
    · go_enter Try.func45, Try.ntmps45
      go_wp2_with (first | (go_at_call 91; have g2 := g1; refine (itime_any v _).mono ?_; rintro e w2 ⟨rfl, rfl⟩; rw [h2]) | (go_at_call 91; refine (itime_any s _).mono ?_; rintro e w2 ⟨rfl, rfl⟩; rw [h1]; have g1 := h1))
      go_ret
      exact ⟨rfl, by go_grown⟩
    cases f3
    · go_enter Try.func45, Try.ntmps45
      go_wp2_with (first | (go_at_call 91; have g2 := g1; refine (itime_any v _).mono ?_; rintro e w2 ⟨rfl, rfl⟩; rw [h2]) | (go_at_call 91; refine (itime_any s _).mono ?_; rintro e w2 ⟨rfl, rfl⟩; rw [h1]; have g1 := h1) | (go_at_call 78; refine (iwithin_any _ _ _ _).mono ?_; rintro e w2 ⟨rfl, rfl⟩; rw [h3']))
      go_ret
      exact ⟨rfl, by go_grown⟩
    cases k
    · subst h4
      by_cases hs : s = 0
      · subst hs
        have e4 : noneB false 0 v = (v == 0) := by unfold noneB; by_cases hv : v = 0 <;> simp [hv]
        rw [e4]
        go_enter Try.func45, Try.ntmps45
        go_wp2_with (first | (go_at_call 91; have g2 := g1; refine (itime_any v _).mono ?_; rintro e w2 ⟨rfl, rfl⟩; rw [h2]) | (go_at_call 91; refine (itime_any 0 _).mono ?_; rintro e w2 ⟨rfl, rfl⟩; rw [h1]; have g1 := h1) | (go_at_call 78; refine (iwithin_any _ _ _ _).mono ?_; rintro e w2 ⟨rfl, rfl⟩; rw [h3']))
        go_ret
        exact ⟨rfl, by go_grown⟩
      · have e4 : noneB false s v = false := by unfold noneB; simp [hs]
        have hs' : (s == 0) = false := by simp [hs]
        rw [e4]
        go_enter Try.func45, Try.ntmps45
        go_wp2_with (first | (go_at_call 91; have g2 := g1; refine (itime_any v _).mono ?_; rintro e w2 ⟨rfl, rfl⟩; rw [h2]) | (go_at_call 91; refine (itime_any s _).mono ?_; rintro e w2 ⟨rfl, rfl⟩; rw [h1]; have g1 := h1) | (go_at_call 78; refine (iwithin_any _ _ _ _).mono ?_; rintro e w2 ⟨rfl, rfl⟩; rw [h3']))
        go_ret
        exact ⟨rfl, by go_grown⟩
    · subst h4
      rw [show noneB true s v = true from rfl]
      go_enter Try.func45, Try.ntmps45
      go_wp2_with (first | (go_at_call 91; have g2 := g1; refine (itime_any v _).mono ?_; rintro e w2 ⟨rfl, rfl⟩; rw [h2]) | (go_at_call 91; refine (itime_any s _).mono ?_; rintro e w2 ⟨rfl, rfl⟩; rw [h1]; have g1 := h1) | (go_at_call 78; refine (iwithin_any _ _ _ _).mono ?_; rintro e w2 ⟨rfl, rfl⟩; rw [h3']))
      go_ret
      exact ⟨rfl, by go_grown⟩
  exact key _ _ _ _ rfl rfl rfl rfl
theorem implTripOk_is {k : Bool} {s v b : Int} {f : Bool} (h : tokB k s v b = f) (w : World) : Calls Try.prog 45 #[.agg #[.bool k, .int .i64 s, .int .i64 v, .int .i64 b]] w fun e w' => e = .returned (.bool f) ∧ Below w.heap.size w w' := by
  subst h; exact implTripOk_any k s v b w
/-! Measure -/
theorem distance_any (x y : Int) (w : World) (hx : 0 ≤ x ∧ x ≤ 1000000000000000) (hy : 0 ≤ y ∧ y ≤ 1000000000000000) : Calls Try.prog 130 #[.int .i64 x, .int .i64 y] w fun e w' => e = .returned (.int .i64 (absOf (x - y))) ∧ w' = w := by
  by_cases h : x < y
  · have e0 : IntKind.i64.wrap (y - x) = y - x := by rw [IntKind.wrap_i64]; omega
    have h' : ¬ y < x := by omega
    rw [show absOf (x - y) = y - x by unfold absOf; rw [if_pos (by omega)]; omega]
    go_enter Try.func130, Try.ntmps130
    go_wp2
    go_ret
    exact ⟨rfl, rfl⟩
  · have e0 : IntKind.i64.wrap (x - y) = x - y := by rw [IntKind.wrap_i64]; omega
    rw [show absOf (x - y) = x - y by unfold absOf; rw [if_neg (by omega)]]
    rcases Int.lt_or_eq_of_le (show y ≤ x by omega) with h' | rfl
    · go_enter Try.func130, Try.ntmps130
      go_wp2
      go_ret
      exact ⟨rfl, rfl⟩
    · go_enter Try.func130, Try.ntmps130
      go_wp2
      go_ret
      exact ⟨rfl, rfl⟩
def weiOf (p x y : Int) : Int := ((p - 1) * x + y) / p
theorem weighed8_any (x y : Int) (w : World) (hx : 0 ≤ x ∧ x ≤ 1000000000000000) (hy : 0 ≤ y ∧ y ≤ 1000000000000000) : Calls Try.prog 129 #[.int .i64 x, .int .i64 y, .int .i64 8] w fun e w' => e = .returned (.int .i64 (weiOf 8 x y)) ∧ w' = w := by
  rw [show weiOf 8 x y = (7 * x + y) / 8 from rfl]
  have ed := tdivT (x := 7 * x + y) (by omega) 8
  go_enter Try.func129, Try.ntmps129
  go_wp2
  go_ret
  exact ⟨rfl, rfl⟩
theorem weighed4_any (x y : Int) (w : World) (hx : 0 ≤ x ∧ x ≤ 1000000000000000) (hy : 0 ≤ y ∧ y ≤ 1000000000000000) : Calls Try.prog 129 #[.int .i64 x, .int .i64 y, .int .i64 4] w fun e w' => e = .returned (.int .i64 (weiOf 4 x y)) ∧ w' = w := by
  rw [show weiOf 4 x y = (3 * x + y) / 4 from rfl]
  have ed := tdivT (x := 3 * x + y) (by omega) 4
  go_enter Try.func129, Try.ntmps129
  go_wp2
  go_ret
  exact ⟨rfl, rfl⟩
theorem weighed_any (x y p : Int) (w : World) (h : (p = 8 ∨ p = 4) ∧ (0 ≤ x ∧ x ≤ 1000000000000000) ∧ (0 ≤ y ∧ y ≤ 1000000000000000)) : Calls Try.prog 129 #[.int .i64 x, .int .i64 y, .int .i64 p] w fun e w' => e = .returned (.int .i64 (weiOf p x y)) ∧ w' = w := by
  obtain ⟨rfl | rfl, hx, hy⟩ := h
  · exact weighed8_any x y w hx hy
  · exact weighed4_any x y w hx hy
theorem measuring1_any (ns : Int) (w : World) (hn : 0 ≤ ns ∧ ns ≤ 1000000000000000) : Calls Try.prog 127 #[.int .i64 ns] w fun e w' => e = .returned (.tuple #[.int .i64 ns, .int .i64 (ns / 2)]) ∧ w' = w := by
  have ed := tdivT hn.1 2
  go_enter Try.func127, Try.ntmps127
  go_wp2
  go_ret2
  exact ⟨rfl, rfl⟩
set_option maxHeartbeats 2000000 in
theorem measuring2_any {w : World} {c : Nat} {s v : Int} (ns : Int) (hs : 0 ≤ s ∧ s ≤ 1000000000000000) (hv : 0 ≤ v ∧ v ≤ 1000000000000000) (hn : 0 ≤ ns ∧ ns ≤ 1000000000000000)
    (c1 : w.cell? ⟨c, 1, none⟩ = some (.int .i64 s)) (c2 : w.cell? ⟨c, 2, none⟩ = some (.int .i64 v)) : Calls Try.prog 128 #[.int .i64 ns, .pointer (some ⟨c, 0, none⟩)] w fun e w' => e = .returned (.tuple #[.int .i64 ((7 * s + ns) / 8), .int .i64 ((3 * v + absOf (s - ns)) / 4)]) ∧ Below w.heap.size w w' := by
  have ha := absOf_bd (x := s - ns) (by omega) (by omega)
  have W8 : Hid (weiOf 8 s ns = (7 * s + ns) / 8) := rfl
  have W4 : Hid (weiOf 4 v (absOf (s - ns)) = (3 * v + absOf (s - ns)) / 4) := rfl
  rw [← W8.out, ← W4.out]
  clear W8 W4
  obtain ⟨d, hd⟩ : ∃ d, absOf (s - ns) = d := ⟨_, rfl⟩
  have hdis : ∀ w : World, Calls Try.prog 130 #[.int .i64 s, .int .i64 ns] w fun e w' => e = .returned (.int .i64 d) ∧ w' = w := fun w => hd ▸ distance_any s ns w hs hn
  rw [hd] at ha ⊢
  clear hd
  go_enter Try.func128, Try.ntmps128
  go_wp2
  go_quiet (first
    | (go_at_call 130; exact Calls.quiet_of_same (hdis _))
    | (go_at_call 129; refine Calls.quiet_of_same (weighed_any _ _ _ _ ?_); first | exact ⟨.inl rfl, hs, hn⟩ | exact ⟨.inr rfl, hv, ha⟩))
  go_wp2
  go_ret2
  exact ⟨rfl, below_drewN (Below.refl _ _) _⟩
theorem measuringNo_any (s v b : Int) (w : World) : Calls Try.prog 92 #[.agg #[.bool false, .int .i64 s, .int .i64 v, .int .i64 b]] w fun e w' => e = .returned (.func (.func 127) #[] #[]) ∧ Below w.heap.size w w' := by
  go_enter Try.func92, Try.ntmps92
  go_wp2
  go_ret
  exact ⟨rfl, by go_grown⟩
def MgPost (s v b : Int) (w : World) (e : Ending) (w' : World) : Prop :=
  e = .returned (.func (.func 128) #[] #[.pointer (some ⟨w.heap.size, 0, none⟩)]) ∧ w.heap.size < w'.heap.size ∧ w'.cell? ⟨w.heap.size, 1, none⟩ = some (.int .i64 s) ∧ w'.cell? ⟨w.heap.size, 2, none⟩ = some (.int .i64 v) ∧ Below w.heap.size w w'
theorem measuringYes_any (s v b : Int) (w : World) : Calls Try.prog 92 #[.agg #[.bool true, .int .i64 s, .int .i64 v, .int .i64 b]] w (MgPost s v b w) := by
  go_enter Try.func92, Try.ntmps92
  go_wp2
  go_ret
  exact ⟨rfl, by simp, by go_simp, by go_simp, by go_grown⟩
set_option maxHeartbeats 2000000 in
theorem implMeasure_no (k : Bool) (s v b ns : Int) (w : World) (hm : measB k s v b ns = false) : Calls Try.prog 38 #[.agg #[.bool k, .int .i64 s, .int .i64 v, .int .i64 b], .int .i64 ns] w fun e w' => e = .returned (trV (false, 0, 0, 0)) ∧ Below w.heap.size w w' := by
  cases h1 : tokB k s v b
  · clear hm
    go_enter Try.func38, Try.ntmps38
    go_wp2_with (first | (go_at_call 45; refine (implTripOk_is h1 _).mono ?_; rintro e w2 ⟨rfl, hb2⟩; have kc := below_cells4 hb2; have kf := below_frozens4 hb2; have hbw := start2 hb2; have zb := size2b hb2))
    obtain ⟨w9, e9, c0, c1, c2, c3, far, fz, sz, hbel⟩ := over4 (.bool false) (.int .i64 0) (.int .i64 0) (.int .i64 0) (w := w2) (g := w.heap.size + 1) (u0 := .bool false) (u1 := .int .i64 0) (u2 := .int .i64 0) (u3 := .int .i64 0) (by go_simp) (by go_simp) (by go_simp) (by go_simp)
    rw [← e9]
    refine bodyPost_ret (results_one rfl _ _ _ [.bool false, .int .i64 0, .int .i64 0, .int .i64 0] rfl (cells_four c0 c1 c2 c3) Try.underlying67 rfl (by kernel_rfl)) rfl ?_
    exact ⟨rfl, hbw.trans (hbel _ (by omega))⟩
  · have h2 : timeB ns = false := by unfold measB at hm; rw [h1] at hm; exact hm
    clear hm
    go_enter Try.func38, Try.ntmps38
    go_wp2_with (first
      | (go_at_call 45; refine (implTripOk_is h1 _).mono ?_; rintro e w2 ⟨rfl, hb2⟩; have kc := below_cells4 hb2; have kf := below_frozens4 hb2; have hbw := start2 hb2; have zb := size2b hb2)
      | (go_at_call 91; refine (itime_any _ _).mono ?_; rintro e w3 ⟨rfl, rfl⟩; rw [h2]))
    obtain ⟨w9, e9, c0, c1, c2, c3, far, fz, sz, hbel⟩ := over4 (.bool false) (.int .i64 0) (.int .i64 0) (.int .i64 0) (w := w3) (g := w.heap.size + 1) (u0 := .bool false) (u1 := .int .i64 0) (u2 := .int .i64 0) (u3 := .int .i64 0) (by go_simp) (by go_simp) (by go_simp) (by go_simp)
    rw [← e9]
    refine bodyPost_ret (results_one rfl _ _ _ [.bool false, .int .i64 0, .int .i64 0, .int .i64 0] rfl (cells_four c0 c1 c2 c3) Try.underlying67 rfl (by kernel_rfl)) rfl ?_
    exact ⟨rfl, hbw.trans (hbel _ (by omega))⟩
set_option maxHeartbeats 2000000 in
theorem implMeasure_new (s v b ns : Int) (w : World) (hm : measB false s v b ns = true) : Calls Try.prog 38 #[.agg #[.bool false, .int .i64 s, .int .i64 v, .int .i64 b], .int .i64 ns] w fun e w' => e = .returned (trV (true, ns, ns / 2, 0)) ∧ Below w.heap.size w w' := by
  obtain ⟨h1, h2, ⟨s0, s1⟩, ⟨v0, v1⟩, n0, n1⟩ := meas_num hm
  clear hm
  go_enter Try.func38, Try.ntmps38
  go_wp2_with (first
    | (go_at_call 45; refine (implTripOk_is h1 _).mono ?_; rintro e w2 ⟨rfl, hb2⟩; have kc := below_cells4 hb2; have kf := below_frozens4 hb2; have hbw := start2 hb2; have zb := size2b hb2)
    | (go_at_call 91; refine (itime_any _ _).mono ?_; rintro e w3 ⟨rfl, rfl⟩; rw [h2])
    | (go_at_call 92; refine (measuringNo_any _ _ _ _).mono ?_; rintro e w4 ⟨rfl, hb4⟩; have kc4 := below_cells4 hb4; have kf4 := below_frozens4 hb4; have hbw4 := below_two hbw hb4; have zb4 := hb4.size)
    | (go_at_call 127; refine (measuring1_any _ _ ⟨n0, n1⟩).mono ?_; rintro e w5 ⟨rfl, rfl⟩))
  have y0 : w5.cell? ⟨w.heap.size + 1, 0, none⟩ = some (.bool false) := (kc4 _ _ zb).trans (by go_simp)
  have y1 : w5.cell? ⟨w.heap.size + 1, 1, none⟩ = some (.int .i64 0) := (kc4 _ _ zb).trans (by go_simp)
  have y2 : w5.cell? ⟨w.heap.size + 1, 2, none⟩ = some (.int .i64 0) := (kc4 _ _ zb).trans (by go_simp)
  have y3 : w5.cell? ⟨w.heap.size + 1, 3, none⟩ = some (.int .i64 0) := (kc4 _ _ zb).trans (by go_simp)
  obtain ⟨w9, e9, c0, c1, c2, c3, far, fz, sz, hbel⟩ := over4 (.bool true) (.int .i64 ns) (.int .i64 (ns / 2)) (.int .i64 0) y0 y1 y2 y3
  rw [← e9]
  refine bodyPost_ret (results_one rfl _ _ _ [.bool true, .int .i64 ns, .int .i64 (ns / 2), .int .i64 0] rfl (cells_four c0 c1 c2 c3) Try.underlying67 rfl (by kernel_rfl)) rfl ?_
  exact ⟨rfl, hbw4.trans (hbel _ (by omega))⟩
set_option maxHeartbeats 2000000 in
theorem implMeasure_old (s v b ns : Int) (w : World) (hm : measB true s v b ns = true) : Calls Try.prog 38 #[.agg #[.bool true, .int .i64 s, .int .i64 v, .int .i64 b], .int .i64 ns] w fun e w' => e = .returned (trV (true, (7 * s + ns) / 8, (3 * v + absOf (s - ns)) / 4, 0)) ∧ Below w.heap.size w w' := by
  obtain ⟨h1, h2, hs, hv, hn⟩ := meas_num hm
  clear hm
  obtain ⟨X, hX⟩ : ∃ X, (7 * s + ns) / 8 = X := ⟨_, rfl⟩
  obtain ⟨Y, hY⟩ : ∃ Y, (3 * v + absOf (s - ns)) / 4 = Y := ⟨_, rfl⟩
  have HM : ∀ {w : World} {c : Nat}, w.cell? ⟨c, 1, none⟩ = some (.int .i64 s) → w.cell? ⟨c, 2, none⟩ = some (.int .i64 v) → Calls Try.prog 128 #[.int .i64 ns, .pointer (some ⟨c, 0, none⟩)] w fun e w' => e = .returned (.tuple #[.int .i64 X, .int .i64 Y]) ∧ Below w.heap.size w w' := by
    intro w c c1 c2
    rw [← hX, ← hY]
    exact measuring2_any ns hs hv hn c1 c2
  rw [hX, hY]
  clear hX hY hs hv hn
  go_enter Try.func38, Try.ntmps38
  go_wp2_with (first
    | (go_at_call 45; refine (implTripOk_is h1 _).mono ?_; rintro e w2 ⟨rfl, hb2⟩; have kc := below_cells4 hb2; have kf := below_frozens4 hb2; have hbw := start2 hb2; have zb := size2b hb2)
    | (go_at_call 91; refine (itime_any _ _).mono ?_; rintro e w3 ⟨rfl, rfl⟩; rw [h2])
    | (go_at_call 92; refine (measuringYes_any _ _ _ _).mono ?_; rintro e w4 ⟨rfl, z4, m1, m2, hb4⟩; have kc4 := below_cells4 hb4; have kf4 := below_frozens4 hb4; have hbw4 := below_two hbw hb4; have z5 : w.heap.size + 1 < w4.heap.size := (by omega))
    | (go_at_call 128; refine (HM m1 m2).mono ?_; rintro e w5 ⟨rfl, hb5⟩; have kc5 := below_cells4 hb5; have kf5 := below_frozens4 hb5; have hbw5 := below_two hbw4 hb5))
  have y0 : w5.cell? ⟨w.heap.size + 1, 0, none⟩ = some (.bool false) := (kc5 _ _ z5).trans ((kc4 _ _ zb).trans (by go_simp))
  have y1 : w5.cell? ⟨w.heap.size + 1, 1, none⟩ = some (.int .i64 0) := (kc5 _ _ z5).trans ((kc4 _ _ zb).trans (by go_simp))
  have y2 : w5.cell? ⟨w.heap.size + 1, 2, none⟩ = some (.int .i64 0) := (kc5 _ _ z5).trans ((kc4 _ _ zb).trans (by go_simp))
  have y3 : w5.cell? ⟨w.heap.size + 1, 3, none⟩ = some (.int .i64 0) := (kc5 _ _ z5).trans ((kc4 _ _ zb).trans (by go_simp))
  obtain ⟨w9, e9, c0, c1, c2, c3, far, fz, sz, hbel⟩ := over4 (.bool true) (.int .i64 X) (.int .i64 Y) (.int .i64 0) y0 y1 y2 y3
  rw [← e9]
  refine bodyPost_ret (results_one rfl _ _ _ [.bool true, .int .i64 X, .int .i64 Y, .int .i64 0] rfl (cells_four c0 c1 c2 c3) Try.underlying67 rfl (by kernel_rfl)) rfl ?_
  exact ⟨rfl, hbw5.trans (hbel _ (by omega))⟩
theorem implMeasure_any (k : Bool) (s v b ns : Int) (w : World) : Calls Try.prog 38 #[.agg #[.bool k, .int .i64 s, .int .i64 v, .int .i64 b], .int .i64 ns] w fun e w' => e = .returned (trV (measOf k s v b ns)) ∧ Below w.heap.size w w' := by
  cases hm : measB k s v b ns
  · rw [show measOf k s v b ns = (false, 0, 0, 0) from if_neg (by rw [hm]; decide)]
    exact implMeasure_no k s v b ns w hm
  · rw [show measOf k s v b ns = measIn k s v ns from if_pos hm]
    cases k
    · exact implMeasure_new s v b ns w hm
    · exact implMeasure_old s v b ns w hm
/-! Wait -/
theorem plainWait_any (k : Bool) (s v b : Int) (w : World) (hs : 0 ≤ s ∧ s ≤ 1000000000000000) (hv : 0 ≤ v ∧ v ≤ 1000000000000000) : Calls Try.prog 131 #[.agg #[.bool k, .int .i64 s, .int .i64 v, .int .i64 b]] w fun e w' => e = .returned (.int .i64 (baseT k s v)) ∧ Below w.heap.size w w' := by
  cases k
  · rw [show baseT false s v = 1000000000 from rfl]
    go_enter Try.func131, Try.ntmps131
    go_wp2
    go_ret
    exact ⟨rfl, by go_grown⟩
  · have HX : Hid (baseT true s v = max 200000000 (s + max (4 * v) 1000000)) := rfl
    obtain ⟨X, hX⟩ : ∃ X, baseT true s v = X := ⟨_, rfl⟩
    rw [hX] at HX ⊢
    clear hX
    have r1 : IntKind.i64.wrap (4 * v) = 4 * v := by rw [IntKind.wrap_i64]; omega
    by_cases h1 : 4 * v < 1000000
    · have r2 : IntKind.i64.wrap (s + 1000000) = s + 1000000 := by rw [IntKind.wrap_i64]; omega
      by_cases h2 : s + 1000000 < 200000000
      · obtain rfl : X = 200000000 := by have := HX.out; omega
        go_enter Try.func131, Try.ntmps131
        go_wp2
        go_ret
        exact ⟨rfl, by go_grown⟩
      · obtain rfl : X = s + 1000000 := by have := HX.out; omega
        go_enter Try.func131, Try.ntmps131
        go_wp2
        all_goals go_ret
        all_goals exact ⟨ret_int (by omega), by go_grown⟩
    · have r2 : IntKind.i64.wrap (s + 4 * v) = s + 4 * v := by rw [IntKind.wrap_i64]; omega
      by_cases h2 : s + 4 * v < 200000000
      · obtain rfl : X = 200000000 := by have := HX.out; omega
        go_enter Try.func131, Try.ntmps131
        go_wp2
        all_goals go_ret
        all_goals exact ⟨ret_int (by omega), by go_grown⟩
      · obtain rfl : X = s + 4 * v := by have := HX.out; omega
        go_enter Try.func131, Try.ntmps131
        go_wp2
        all_goals go_ret
        all_goals exact ⟨ret_int (by omega), by go_grown⟩
/-- A variable that a closure holds: one number, not shared with a string. -/
def NumAt (w : World) (g : Nat) (x : Int) : Prop := w.cell? ⟨g, 0, none⟩ = some (.int .i64 x) ∧ w.frozen? ⟨g, 0, none⟩ = false ∧ g < w.heap.size
def WoPost (X : Int) (w : World) (e : Ending) (w' : World) : Prop := ∃ g, e = .returned (.func (.func 132) #[] #[.pointer (some ⟨g, 0, none⟩)]) ∧ w.heap.size ≤ g ∧ NumAt w' g (min X 60000000000) ∧ Below w.heap.size w w'
set_option maxHeartbeats 1000000 in
theorem waitsOf_any (k : Bool) (s v b : Int) (w : World) (hs : 0 ≤ s ∧ s ≤ 1000000000000000) (hv : 0 ≤ v ∧ v ≤ 1000000000000000) : Calls Try.prog 94 #[.agg #[.bool k, .int .i64 s, .int .i64 v, .int .i64 b]] w (WoPost (baseT k s v) w) := by
  have hp := fun w => plainWait_any k s v b w hs hv
  generalize baseT k s v = X at hp ⊢
  by_cases h : X < 60000000000
  · have e0 : min X 60000000000 = X := by omega
    go_enter Try.func94, Try.ntmps94
    go_wp2_with (first | (go_at_call 131; refine (hp _).mono ?_; rintro e w2 ⟨rfl, hb2⟩; have hbw := start1 hb2))
    go_ret
    exact ⟨w2.heap.size, rfl, hbw.size, ⟨by rw [e0]; go_simp, by go_simp, by simp⟩, below_two hbw (by go_grown)⟩
  · have e0 : min X 60000000000 = 60000000000 := by omega
    rcases Int.lt_or_eq_of_le (show 60000000000 ≤ X by omega) with h' | rfl
    · go_enter Try.func94, Try.ntmps94
      go_wp2_with (first | (go_at_call 131; refine (hp _).mono ?_; rintro e w2 ⟨rfl, hb2⟩; have hbw := start1 hb2))
      go_ret
      exact ⟨w2.heap.size, rfl, hbw.size, ⟨by rw [e0]; go_simp, by go_simp, by simp⟩, below_two hbw (by go_grown)⟩
    · go_enter Try.func94, Try.ntmps94
      go_wp2_with (first | (go_at_call 131; refine (hp _).mono ?_; rintro e w2 ⟨rfl, hb2⟩; have hbw := start1 hb2))
      go_ret
      exact ⟨w2.heap.size, rfl, hbw.size, ⟨by rw [e0]; go_simp, by go_simp, by simp⟩, below_two hbw (by go_grown)⟩
def NxPost (x : Int) (g : Nat) (w : World) (e : Ending) (w' : World) : Prop := e = .returned (.int .i64 x) ∧ NumAt w' g (min (2 * x) 60000000000) ∧ (∀ B, B ≤ g → Below B w w') ∧ (∀ k o : Nat, k ≠ g → w'.cell? ⟨k, o, none⟩ = w.cell? ⟨k, o, none⟩)
theorem next_any {w : World} {g : Nat} {x : Int} (h : NumAt w g x) (h0 : 0 ≤ x) (h1 : x ≤ 60000000000) : Calls Try.prog 132 #[.pointer (some ⟨g, 0, none⟩)] w (NxPost x g w) := by
  obtain ⟨c0, f0, z0⟩ := h
  have r1 : IntKind.i64.wrap (2 * x) = 2 * x := by rw [IntKind.wrap_i64]; omega
  have fin : ∀ y : Int, min (2 * x) 60000000000 = y → NxPost x g w (.returned (.int .i64 x)) (w.setCell ⟨g, 0, none⟩ (.int .i64 y)) := by
    intro y hy
    refine ⟨rfl, ⟨?_, ?_, ?_⟩, ?_, ?_⟩
    · rw [hy]; exact set_same4 _ c0
    · simpa using f0
    · simpa using z0
    · intro B hB; exact (Below.refl B w).setCell (by exact hB) _
    · intro k o hk
      exact World.cell?_setCell_other _ _ _ _ (fun e => hk (by injection e with e; exact e.symm))
  by_cases h : 2 * x < 60000000000
  · go_enter Try.func132, Try.ntmps132
    go_wp2
    go_ret
    exact fin _ (by omega)
  · rcases Int.lt_or_eq_of_le (show 60000000000 ≤ 2 * x by omega) with h' | h'
    · go_enter Try.func132, Try.ntmps132
      go_wp2
      go_ret
      exact fin _ (by omega)
    · obtain rfl : x = 30000000000 := by omega
      go_enter Try.func132, Try.ntmps132
      go_wp2
      go_ret
      exact fin _ (by omega)
theorem wait_next {X : Int} (h0 : 0 ≤ X) (h1 : X ≤ 5000000000000000) (j : Nat) : min (2 * min (dblT X j) 60000000000) 60000000000 = min (dblT X (j + 1)) 60000000000 := by
  rw [dbl_succ]; omega
theorem dbl_nn {X : Int} (h0 : 0 ≤ X) (j : Nat) : 0 ≤ dblT X j := by
  induction j with
  | zero => rw [dbl_zero]; exact h0
  | succ j ih => rw [dbl_succ]; omega
set_option maxHeartbeats 1000000 in
theorem implWait_no (k : Bool) (s v b : Int) (w : World) (h1 : tokB k s v b = false) : Calls Try.prog 40 #[.agg #[.bool k, .int .i64 s, .int .i64 v, .int .i64 b]] w fun e w' => e = .returned (.int .i64 (-1)) ∧ Below w.heap.size w w' := by
  go_enter Try.func40, Try.ntmps40
  go_wp2_with (first | (go_at_call 45; refine (implTripOk_is h1 _).mono ?_; rintro e w2 ⟨rfl, hb2⟩; have hbw := start1 hb2))
  go_ret
  exact ⟨rfl, hbw⟩
set_option maxHeartbeats 2000000 in
theorem implWait_yes (k : Bool) (s v : Int) (m : Nat) (w : World) (h1 : tokB k s v (m : Int) = true) : Calls Try.prog 40 #[.agg #[.bool k, .int .i64 s, .int .i64 v, .int .i64 (m : Int)]] w fun e w' => e = .returned (.int .i64 (min 60000000000 (dblT (baseT k s v) m))) ∧ Below w.heap.size w w' := by
  obtain ⟨hs, hv, m0, m1⟩ := tok_num h1
  obtain ⟨x0, x1⟩ := base_bd (k := k) hs hv
  have hwo := fun w => waitsOf_any k s v (m : Int) w hs hv
  generalize baseT k s v = X at x0 x1 hwo ⊢
  have HB : Hid (∀ j : Nat, 0 ≤ dblT X j) := dbl_nn x0
  have HN : Hid (∀ j : Nat, min (2 * min (dblT X j) 60000000000) 60000000000 = min (dblT X (j + 1)) 60000000000) := wait_next x0 x1
  clear x0 x1 hs hv
  go_enter Try.func40, Try.ntmps40
  go_wp2_with (first
    | (go_at_call 45; refine (implTripOk_is h1 _).mono ?_; rintro e w2 ⟨rfl, hb2⟩; have hbw := start1 hb2; have kc := below_cells4 hb2; have kf := below_frozens4 hb2; have z2 : w.heap.size < w2.heap.size := (by have := hb2.size; simp at this; omega))
    | (go_at_call 94; refine (hwo _).mono ?_; rintro e w3 ⟨g, rfl, hg, hnum, hb3⟩; have hbw3 := below_two hbw hb3; have q3 : w3.cell? ⟨w.heap.size, 3, none⟩ = some (.int .i64 (m : Int)) := (below_cells4 hb3 _ _ z2).trans (by go_simp)))
  have HG : Hid (NumAt w3 g (min X 60000000000)) := hnum
  have hwg : w.heap.size ≤ g := by omega
  clear hnum kc kf
  go_loopw [11] (fun i wr => ∃ j : Nat, i = .int .i64 j ∧ j ≤ m ∧ Hid (NumAt wr g (min (dblT X j) 60000000000)) ∧ Below w.heap.size w wr) (fun i _ => m - (intOf i).toNat)
  case atStart => exact ⟨0, rfl, by omega, by rw [dbl_zero]; exact HG, hbw3⟩
  case round =>
    obtain ⟨j, rfl, hj, HJ, hbj⟩ := hrel
    have hc := next_any HJ.out (by have := HB.out j; omega) (by omega)
    by_cases hlt : j < m
    · have hlt' : (j : Int) < (m : Int) := by omega
      go_wp2_with (first | (go_at_call 132; refine hc.mono ?_; rintro e w4 ⟨rfl, hn4, hb4, _⟩))
      go_roundw
      case rel => exact ⟨j + 1, by go_num, by omega, by rw [← HN.out]; exact hn4, hbj.trans (hb4 _ hwg)⟩
      case measure => first | (simp [intOf]; done) | (simp [intOf]; omega)
    · obtain rfl : j = m := by omega
      go_wp2_with (first | (go_at_call 132; refine hc.mono ?_; rintro e w4 ⟨rfl, hn4, hb4, _⟩))
      go_ret
      exact ⟨ret_int (Int.min_comm _ _), hbj.trans (hb4 _ hwg)⟩
theorem implWait_any (k : Bool) (s v b : Int) (w : World) : Calls Try.prog 40 #[.agg #[.bool k, .int .i64 s, .int .i64 v, .int .i64 b]] w fun e w' => e = .returned (.int .i64 (waitOf9 k s v b)) ∧ Below w.heap.size w w' := by
  cases h : tokB k s v b
  · rw [show waitOf9 k s v b = -1 from if_neg (by rw [h]; decide)]
    exact implWait_no k s v b w h
  · rw [show waitOf9 k s v b = min 60000000000 (dblT (baseT k s v) b.toNat) from if_pos h]
    obtain ⟨m, rfl⟩ : ∃ m : Nat, b = m := ⟨b.toNat, by have := tok_num h; omega⟩
    rw [Int.toNat_natCast]
    exact implWait_yes k s v m w h
/-! Expire -/
set_option maxHeartbeats 2000000 in
theorem implExpire_no (k : Bool) (s v b : Int) (w : World) (h1 : tokB k s v b = false) : Calls Try.prog 42 #[.agg #[.bool k, .int .i64 s, .int .i64 v, .int .i64 b]] w fun e w' => e = .returned (trV (false, 0, 0, 0)) ∧ Below w.heap.size w w' := by
  go_enter Try.func42, Try.ntmps42
  go_wp2_with (first | (go_at_call 45; refine (implTripOk_is h1 _).mono ?_; rintro e w2 ⟨rfl, hb2⟩; have kc := below_cells4 hb2; have kf := below_frozens4 hb2; have hbw := start2 hb2; have zb := size2b hb2))
  obtain ⟨w9, e9, c0, c1, c2, c3, far, fz, sz, hbel⟩ := over4 (.bool false) (.int .i64 0) (.int .i64 0) (.int .i64 0) (w := w2) (g := w.heap.size + 1) (u0 := .bool false) (u1 := .int .i64 0) (u2 := .int .i64 0) (u3 := .int .i64 0) (by go_simp) (by go_simp) (by go_simp) (by go_simp)
  rw [← e9]
  refine bodyPost_ret (results_one rfl _ _ _ [.bool false, .int .i64 0, .int .i64 0, .int .i64 0] rfl (cells_four c0 c1 c2 c3) Try.underlying67 rfl (by kernel_rfl)) rfl ?_
  exact ⟨rfl, hbw.trans (hbel _ (by omega))⟩
set_option maxHeartbeats 2000000 in
theorem implExpire_yes (k : Bool) (s v b y : Int) (w : World) (h1 : tokB k s v b = true) (hy : y = min 10 (b + 1)) : Calls Try.prog 42 #[.agg #[.bool k, .int .i64 s, .int .i64 v, .int .i64 b]] w fun e w' => e = .returned (trV (k, s, v, y)) ∧ Below w.heap.size w w' := by
  obtain ⟨⟨s0, s1⟩, ⟨v0, v1⟩, m0, m1⟩ := tok_num h1
  have r1 : IntKind.i64.wrap (b + 1) = b + 1 := by rw [IntKind.wrap_i64]; omega
  have hyy : y = b + 1 ∧ b + 1 < 10 ∨ y = 10 ∧ b = 9 ∨ y = 10 ∧ b = 10 := by omega
  clear hy
  rcases hyy with ⟨rfl, hlt⟩ | ⟨rfl, rfl⟩ | ⟨rfl, rfl⟩
  · go_enter Try.func42, Try.ntmps42
    go_wp2_with (first
      | (go_at_call 45; refine (implTripOk_is h1 _).mono ?_; rintro e w2 ⟨rfl, hb2⟩; have kc := below_cells4 hb2; have kf := below_frozens4 hb2; have hbw := start2 hb2; have zb := size2b hb2; have p3 : w2.cell? ⟨w.heap.size, 3, none⟩ = some (.int .i64 _) := (kc _ _ (by simp; omega)).trans (by go_simp; rfl); have ps := fun y : Int => set_same4 (.int .i64 y) p3))
    obtain ⟨w9, e9, c0, c1, c2, c3, far, fz, sz, hbel⟩ := over4 (.bool k) (.int .i64 s) (.int .i64 v) (.int .i64 (b + 1)) (w := w2.setCell ⟨w.heap.size, 3, none⟩ (.int .i64 (b + 1))) (g := w.heap.size + 1) (u0 := .bool false) (u1 := .int .i64 0) (u2 := .int .i64 0) (u3 := .int .i64 0) (by go_simp) (by go_simp) (by go_simp) (by go_simp)
    rw [← e9]
    refine bodyPost_ret (results_one rfl _ _ _ [.bool k, .int .i64 s, .int .i64 v, .int .i64 (b + 1)] rfl (cells_four c0 c1 c2 c3) Try.underlying67 rfl (by kernel_rfl)) rfl ?_
    exact ⟨rfl, (hbw.setCell (by exact Nat.le_refl _) _).trans (hbel _ (by omega))⟩
  · go_enter Try.func42, Try.ntmps42
    go_wp2_with (first
      | (go_at_call 45; refine (implTripOk_is h1 _).mono ?_; rintro e w2 ⟨rfl, hb2⟩; have kc := below_cells4 hb2; have kf := below_frozens4 hb2; have hbw := start2 hb2; have zb := size2b hb2; have p3 : w2.cell? ⟨w.heap.size, 3, none⟩ = some (.int .i64 _) := (kc _ _ (by simp; omega)).trans (by go_simp; rfl); have ps := fun y : Int => set_same4 (.int .i64 y) p3))
    obtain ⟨w9, e9, c0, c1, c2, c3, far, fz, sz, hbel⟩ := over4 (.bool k) (.int .i64 s) (.int .i64 v) (.int .i64 10) (w := w2.setCell ⟨w.heap.size, 3, none⟩ (.int .i64 10)) (g := w.heap.size + 1) (u0 := .bool false) (u1 := .int .i64 0) (u2 := .int .i64 0) (u3 := .int .i64 0) (by go_simp) (by go_simp) (by go_simp) (by go_simp)
    rw [← e9]
    refine bodyPost_ret (results_one rfl _ _ _ [.bool k, .int .i64 s, .int .i64 v, .int .i64 10] rfl (cells_four c0 c1 c2 c3) Try.underlying67 rfl (by kernel_rfl)) rfl ?_
    exact ⟨rfl, (hbw.setCell (by exact Nat.le_refl _) _).trans (hbel _ (by omega))⟩
  · go_enter Try.func42, Try.ntmps42
    go_wp2_with (first
      | (go_at_call 45; refine (implTripOk_is h1 _).mono ?_; rintro e w2 ⟨rfl, hb2⟩; have kc := below_cells4 hb2; have kf := below_frozens4 hb2; have hbw := start2 hb2; have zb := size2b hb2; have p3 : w2.cell? ⟨w.heap.size, 3, none⟩ = some (.int .i64 _) := (kc _ _ (by simp; omega)).trans (by go_simp; rfl); have ps := fun y : Int => set_same4 (.int .i64 y) p3))
    obtain ⟨w9, e9, c0, c1, c2, c3, far, fz, sz, hbel⟩ := over4 (.bool k) (.int .i64 s) (.int .i64 v) (.int .i64 10) (w := w2.setCell ⟨w.heap.size, 3, none⟩ (.int .i64 10)) (g := w.heap.size + 1) (u0 := .bool false) (u1 := .int .i64 0) (u2 := .int .i64 0) (u3 := .int .i64 0) (by go_simp) (by go_simp) (by go_simp) (by go_simp)
    rw [← e9]
    refine bodyPost_ret (results_one rfl _ _ _ [.bool k, .int .i64 s, .int .i64 v, .int .i64 10] rfl (cells_four c0 c1 c2 c3) Try.underlying67 rfl (by kernel_rfl)) rfl ?_
    exact ⟨rfl, (hbw.setCell (by exact Nat.le_refl _) _).trans (hbel _ (by omega))⟩
theorem implExpire_any (k : Bool) (s v b : Int) (w : World) : Calls Try.prog 42 #[.agg #[.bool k, .int .i64 s, .int .i64 v, .int .i64 b]] w fun e w' => e = .returned (trV (expOf k s v b)) ∧ Below w.heap.size w w' := by
  cases h : tokB k s v b
  · rw [show expOf k s v b = (false, 0, 0, 0) from if_neg (by rw [h]; decide)]
    exact implExpire_no k s v b w h
  · rw [show expOf k s v b = (k, s, v, min 10 (b + 1)) from if_pos h]
    exact implExpire_yes k s v b _ w h rfl
end Go.Proofs.Ytohenfogiegkmad

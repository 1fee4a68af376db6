/- What spec's Room, Share, Claim and Free answer. -/
import Derived.Test.YtoeiheccmpjclafSpecPlc
import Derived.Test.YtoeiheccmpjclafFlwRow
import Derived.Test.YtoeiheccmpjclafLate
namespace Go.Proofs.Ytoeiheccmpjclaf
open Go.ChangeShapes Go.WideShapes Go.ChangeAt Go.RowKit
set_option maxRecDepth 100000
set_option linter.unusedVariables false
set_option linter.unusedSimpArgs false

theorem specPlaceOk_is {wd fl : Int} {w : World} {a : Option Addr} (cap : Nat) {xs : List Int} {f : Bool} (hf : plB wd fl xs = f) (smp : ISmp w.heap.size w a xs) : Calls Try.prog 49 #[.agg #[.int .i64 wd, .int .i64 fl, .slice a xs.length cap]] w fun e w' => e = .returned (.bool f) ∧ Below w.heap.size w w' := by subst hf; exact specPlaceOk_any cap smp
theorem pl_num {wd fl : Int} {xs : List Int} (h : plB wd fl xs = true) : (3000 ≤ wd ∧ wd ≤ 1000000000) ∧ (0 ≤ fl ∧ fl ≤ 1000000000) ∧ xs.length ≤ 50 := by
  obtain ⟨h1, h2, h3, _⟩ := pl_yes h
  unfold openB at h1
  unfold w10B at h2
  simp only [Bool.and_eq_true, decide_eq_true_eq] at h1 h2
  exact ⟨h1, h2, h3⟩
theorem s10_num {n : Int} (h : s10B n = true) : 1 ≤ n ∧ n ≤ 1500 := by
  unfold s10B at h
  simp only [Bool.and_eq_true, decide_eq_true_eq] at h
  exact h
/-- Is there room? -/
noncomputable def roomB (wd fl n : Int) (xs : List Int) : Bool := (plB wd fl xs && s10B n) && decide (fl + n ≤ wd)
set_option maxHeartbeats 4000000 in
theorem specRoom_any {wd fl n : Int} {w : World} {a : Option Addr} (cap : Nat) {xs : List Int} (smp : ISmp w.heap.size w a xs) : Calls Try.prog 64 #[.agg #[.int .i64 wd, .int .i64 fl, .slice a xs.length cap], .int .i64 n] w fun e w' => e = .returned (.bool (roomB wd fl n xs)) ∧ Below w.heap.size w w' := by
  cases hp : plB wd fl xs
  · rw [show roomB wd fl n xs = false by unfold roomB; rw [hp]; rfl]
    go_enter Try.func64, Try.ntmps64
    go_wp2_with (first
      | (go_at_call 49; refine (specPlaceOk_is cap hp (smp.here (by go_grown))).mono ?_; rintro e w3 ⟨rfl, hbw3⟩; have hbw : Below w.heap.size w w3 := below_two (by go_grown) hbw3; have kc := below_cells4 hbw3; have kf := below_frozens4 hbw3; have zl := hbw3.size; (try simp at zl); have p0 : w3.cell? ⟨w.heap.size, 0, none⟩ = some (.int .i64 wd) := (kc _ _ (by simp; try omega)).trans (by go_simp); have p1 : w3.cell? ⟨w.heap.size, 1, none⟩ = some (.int .i64 fl) := (kc _ _ (by simp; try omega)).trans (by go_simp); have p2 : w3.cell? ⟨w.heap.size, 2, none⟩ = some (.slice a xs.length cap) := (kc _ _ (by simp; try omega)).trans (by go_simp); clear kc kf))
    go_ret
    exact ⟨rfl, hbw⟩
  cases hn : s10B n
  · rw [show roomB wd fl n xs = false by unfold roomB; rw [hp, hn]; rfl]
    go_enter Try.func64, Try.ntmps64
    go_wp2_with (first
      | (go_at_call 49; refine (specPlaceOk_is cap hp (smp.here (by go_grown))).mono ?_; rintro e w3 ⟨rfl, hbw3⟩; have hbw : Below w.heap.size w w3 := below_two (by go_grown) hbw3; have kc := below_cells4 hbw3; have kf := below_frozens4 hbw3; have zl := hbw3.size; (try simp at zl); have p0 : w3.cell? ⟨w.heap.size, 0, none⟩ = some (.int .i64 wd) := (kc _ _ (by simp; try omega)).trans (by go_simp); have p1 : w3.cell? ⟨w.heap.size, 1, none⟩ = some (.int .i64 fl) := (kc _ _ (by simp; try omega)).trans (by go_simp); have p2 : w3.cell? ⟨w.heap.size, 2, none⟩ = some (.slice a xs.length cap) := (kc _ _ (by simp; try omega)).trans (by go_simp); clear kc kf)
      | (go_at_call 79; refine (sSg_is hn _).mono ?_; rintro e w4 ⟨rfl, rfl⟩))
    go_ret
    exact ⟨rfl, hbw⟩
  obtain ⟨⟨q1, q2⟩, ⟨q3, q4⟩, q5⟩ := pl_num hp
  obtain ⟨q6, q7⟩ := s10_num hn
  have r1 : IntKind.i64.wrap (fl + n) = fl + n := by rw [IntKind.wrap_i64]; omega
  rw [show roomB wd fl n xs = decide (fl + n ≤ wd) by unfold roomB; rw [hp, hn]; rfl]
  go_enter Try.func64, Try.ntmps64
  go_wp2_with (first
    | (go_at_call 49; refine (specPlaceOk_is cap hp (smp.here (by go_grown))).mono ?_; rintro e w3 ⟨rfl, hbw3⟩; have hbw : Below w.heap.size w w3 := below_two (by go_grown) hbw3; have kc := below_cells4 hbw3; have kf := below_frozens4 hbw3; have zl := hbw3.size; (try simp at zl); have p0 : w3.cell? ⟨w.heap.size, 0, none⟩ = some (.int .i64 wd) := (kc _ _ (by simp; try omega)).trans (by go_simp); have p1 : w3.cell? ⟨w.heap.size, 1, none⟩ = some (.int .i64 fl) := (kc _ _ (by simp; try omega)).trans (by go_simp); have p2 : w3.cell? ⟨w.heap.size, 2, none⟩ = some (.slice a xs.length cap) := (kc _ _ (by simp; try omega)).trans (by go_simp); clear kc kf)
    | (go_at_call 79; refine (sSg_is hn _).mono ?_; rintro e w4 ⟨rfl, rfl⟩))
  go_ret
  exact ⟨rfl, hbw⟩
theorem specRoom_is {wd fl n : Int} {w : World} {a : Option Addr} (cap : Nat) {xs : List Int} {f : Bool} (hf : roomB wd fl n xs = f) (smp : ISmp w.heap.size w a xs) : Calls Try.prog 64 #[.agg #[.int .i64 wd, .int .i64 fl, .slice a xs.length cap], .int .i64 n] w fun e w' => e = .returned (.bool f) ∧ Below w.heap.size w w' := by subst hf; exact specRoom_any cap smp
open Classical in
noncomputable def shareAns (wd fl : Int) (xs : List Int) : Int := if plB wd fl xs = true then (if xs.length = 0 then wd else max 3000 (wd / (xs.length : Int))) else -1
set_option maxHeartbeats 4000000 in
theorem specShare_any {wd fl : Int} {w : World} {a : Option Addr} (cap : Nat) {xs : List Int} (smp : ISmp w.heap.size w a xs) : Calls Try.prog 31 #[.agg #[.int .i64 wd, .int .i64 fl, .slice a xs.length cap]] w fun e w' => e = .returned (.int .i64 (shareAns wd fl xs)) ∧ Below w.heap.size w w' := by
  unfold shareAns
  cases hp : plB wd fl xs
  · rw [if_neg (by decide)]
    go_enter Try.func31, Try.ntmps31
    go_wp2_with (first
      | (go_at_call 49; refine (specPlaceOk_is cap hp (smp.here (by go_grown))).mono ?_; rintro e w3 ⟨rfl, hbw3⟩; have hbw : Below w.heap.size w w3 := below_two (by go_grown) hbw3; have kc := below_cells4 hbw3; have kf := below_frozens4 hbw3; have zl := hbw3.size; (try simp at zl); have p0 : w3.cell? ⟨w.heap.size, 0, none⟩ = some (.int .i64 wd) := (kc _ _ (by simp; try omega)).trans (by go_simp); have p1 : w3.cell? ⟨w.heap.size, 1, none⟩ = some (.int .i64 fl) := (kc _ _ (by simp; try omega)).trans (by go_simp); have p2 : w3.cell? ⟨w.heap.size, 2, none⟩ = some (.slice a xs.length cap) := (kc _ _ (by simp; try omega)).trans (by go_simp); clear kc kf))
    go_ret
    exact ⟨rfl, hbw⟩
  rw [if_pos rfl]
  obtain ⟨⟨q1, q2⟩, ⟨q3, q4⟩, q5⟩ := pl_num hp
  by_cases h0 : xs.length = 0
  · rw [if_pos h0]
    obtain rfl : xs = [] := List.length_eq_zero_iff.1 h0
    go_enter Try.func31, Try.ntmps31
    go_wp2_with (first
      | (go_at_call 49; refine (specPlaceOk_is cap hp (smp.here (by go_grown))).mono ?_; rintro e w3 ⟨rfl, hbw3⟩; have hbw : Below w.heap.size w w3 := below_two (by go_grown) hbw3; have kc := below_cells4 hbw3; have kf := below_frozens4 hbw3; have zl := hbw3.size; (try simp at zl); have p0 : w3.cell? ⟨w.heap.size, 0, none⟩ = some (.int .i64 wd) := (kc _ _ (by simp; try omega)).trans (by go_simp); have p1 : w3.cell? ⟨w.heap.size, 1, none⟩ = some (.int .i64 fl) := (kc _ _ (by simp; try omega)).trans (by go_simp); have p2 : w3.cell? ⟨w.heap.size, 2, none⟩ = some (.slice a 0 cap) := (kc _ _ (by simp; try omega)).trans (by go_simp); clear kc kf))
    go_ret
    exact ⟨rfl, hbw⟩
  rw [if_neg h0]
  have h1 : ¬ ((xs.length : Int) = 0) := by omega
  have h2 : ((xs.length : Int) == 0) = false := beq_eq_false_iff_ne.2 h1
  have ed : wd.tdiv (xs.length : Int) = wd / (xs.length : Int) := Int.tdiv_eq_ediv_of_nonneg (by omega)
  have rd : 0 ≤ wd / (xs.length : Int) ∧ wd / (xs.length : Int) ≤ wd := ⟨Int.ediv_nonneg (by omega) (by omega), Int.ediv_le_self _ (by omega)⟩
  obtain ⟨z, hz⟩ : ∃ z, wd / (xs.length : Int) = z := ⟨_, rfl⟩
  rw [hz] at ed rd ⊢
  have r2 : IntKind.i64.wrap z = z := by rw [IntKind.wrap_i64]; omega
  have HM : Hid (∀ w : World, Calls Try.prog 59 #[.int .i64 3000, .int .i64 z] w fun e w' => e = .returned (.int .i64 (max 3000 z)) ∧ w' = w) := fun w => max10_any 3000 z w
  clear h0 hz
  go_enter Try.func31, Try.ntmps31
  go_wp2_with (first
    | (go_at_call 49; refine (specPlaceOk_is cap hp (smp.here (by go_grown))).mono ?_; rintro e w3 ⟨rfl, hbw3⟩; have hbw : Below w.heap.size w w3 := below_two (by go_grown) hbw3; have kc := below_cells4 hbw3; have kf := below_frozens4 hbw3; have zl := hbw3.size; (try simp at zl); have p0 : w3.cell? ⟨w.heap.size, 0, none⟩ = some (.int .i64 wd) := (kc _ _ (by simp; try omega)).trans (by go_simp); have p1 : w3.cell? ⟨w.heap.size, 1, none⟩ = some (.int .i64 fl) := (kc _ _ (by simp; try omega)).trans (by go_simp); have p2 : w3.cell? ⟨w.heap.size, 2, none⟩ = some (.slice a xs.length cap) := (kc _ _ (by simp; try omega)).trans (by go_simp); clear kc kf)
    | (go_at_call 59; refine (HM.out _).mono ?_; rintro e w4 ⟨rfl, rfl⟩))
  go_ret
  exact ⟨rfl, hbw⟩
/-- A Place with a list of its own, made anew. -/
def AnsP (w : World) (xs : List Int) (wd fl : Int) (e : Ending) (w' : World) : Prop := ∃ a n c, e = .returned (.agg #[.int .i64 wd, .int .i64 fl, .slice a n c]) ∧ IV w' w.heap.size (.slice a n c) xs ∧ Below w.heap.size w w'
set_option maxHeartbeats 4000000 in
theorem l13Copy_any {wd fl : Int} {w : World} {a : Option Addr} (cap : Nat) {xs : List Int} (hl : xs.length ≤ 1048576) (smp : ISmp w.heap.size w a xs) : Calls Try.prog 65 #[.agg #[.int .i64 wd, .int .i64 fl, .slice a xs.length cap]] w (AnsP w xs wd fl) := by
  obtain ⟨i0, hi, hz0, hz1, hz2⟩ := info_parts info_int
  go_enter Try.func65, Try.ntmps65
  go_upto_region 1 with (fail)
  obtain ⟨x, hx⟩ : ∃ x, x = (w.alloc (.cells #[.int .i64 wd, .int .i64 fl, .slice a xs.length cap] 37)).alloc (.cells #[.int .i64 0, .int .i64 0, .slice none 0 0] 37) := ⟨_, rfl⟩
  rw [← hx]
  have hbw : Below w.heap.size w x := by rw [hx]; go_grown
  have zl : w.heap.size + 1 + 1 ≤ x.heap.size := by rw [hx]; simp
  have p0 : x.cell? ⟨w.heap.size, 0, none⟩ = some (.int .i64 wd) := by rw [hx]; go_simp
  have p1 : x.cell? ⟨w.heap.size, 1, none⟩ = some (.int .i64 fl) := by rw [hx]; go_simp
  have p2 : x.cell? ⟨w.heap.size, 2, none⟩ = some (.slice a xs.length cap) := by rw [hx]; go_simp
  have v0 : x.cell? ⟨w.heap.size + 1, 0, none⟩ = some (.int .i64 0) := by rw [hx]; go_simp
  have v1 : x.cell? ⟨w.heap.size + 1, 1, none⟩ = some (.int .i64 0) := by rw [hx]; go_simp
  have v2 : x.cell? ⟨w.heap.size + 1, 2, none⟩ = some (.slice none 0 0) := by rw [hx]; go_simp
  have pz : ∀ o : Nat, x.frozen? ⟨w.heap.size, o, none⟩ = false := fun o => by rw [hx]; go_simp
  have vz : ∀ o : Nat, x.frozen? ⟨w.heap.size + 1, o, none⟩ = false := fun o => by rw [hx]; go_simp
  clear hx
  have HSM : Hid (ISmp w.heap.size (x.alloc (.cells #[] 2)) a xs) := (smp.mono hbw).mono ((new_below x _).mono (by omega))
  have n0 : x.heap.size ≠ w.heap.size := by omega
  have n1 : w.heap.size ≠ x.heap.size := by omega
  have n2 : w.heap.size < x.heap.size := by omega
  go_upto_region 2 with (first
    | (at_builtin; refine wpList_append_smp (by rfl) _ _ 35 rfl x.heap.size 2 i0 _ Try.underlying35 hi hz0 hz1 hz2 rfl _ 0 [] rfl (own_none1 x _ _ rfl (Nat.le_refl _) _) a cap w.heap.size xs rfl HSM.out (by omega) (by simp) ?_; intro v' w3 own3 gr3; have hb3 : Below x.heap.size x w3 := ((Below.refl _ x).alloc (Nat.le_refl _) _).grown gr3 (by simp) (fun k hk => Nat.le_of_eq (Option.some.inj hk)); rw [Nat.zero_add, List.nil_append] at own3; obtain ⟨va, ca, rfl⟩ := own_slice own3; have hbw : Below w.heap.size w w3 := below_two hbw hb3; have p0 := (hb3.cell (p := ⟨w.heap.size, 0, none⟩) (by show w.heap.size < _; omega)).trans p0; have p1 := (hb3.cell (p := ⟨w.heap.size, 1, none⟩) (by show w.heap.size < _; omega)).trans p1; have p2 := (hb3.cell (p := ⟨w.heap.size, 2, none⟩) (by show w.heap.size < _; omega)).trans p2; have v0 := (hb3.cell (p := ⟨w.heap.size + 1, 0, none⟩) (by show w.heap.size + 1 < _; omega)).trans v0; have v1 := (hb3.cell (p := ⟨w.heap.size + 1, 1, none⟩) (by show w.heap.size + 1 < _; omega)).trans v1; have v2 := (hb3.cell (p := ⟨w.heap.size + 1, 2, none⟩) (by show w.heap.size + 1 < _; omega)).trans v2; have vz : ∀ o : Nat, w3.frozen? ⟨w.heap.size + 1, o, none⟩ = false := fun o => (hb3.frozen (p := ⟨w.heap.size + 1, o, none⟩) (by show w.heap.size + 1 < _; omega)).trans (vz o); have zl : w.heap.size + 1 + 1 ≤ w3.heap.size := Nat.le_trans zl hb3.size; have pz : ∀ o : Nat, w3.frozen? ⟨w.heap.size, o, none⟩ = false := (fun o => (hb3.frozen (p := ⟨w.heap.size, o, none⟩) (by show w.heap.size < _; omega)).trans (pz o))))
  have iv : IV w3 x.heap.size (.slice va xs.length ca) xs := own_ints own3
  obtain ⟨x4, hx4⟩ : ∃ y, y = w3.setCell ⟨w.heap.size, 2, none⟩ (.slice va xs.length ca) := ⟨_, rfl⟩
  rw [← hx4]
  have oX : Only w.heap.size w3 x4 := by rw [hx4]; exact (Only.refl _ w3).setCell (p := ⟨w.heap.size, 2, none⟩) rfl _
  have p0 : x4.cell? ⟨w.heap.size, 0, none⟩ = some (.int .i64 wd) := by rw [hx4]; exact (set_other4 (by decide)).trans p0
  have p1 : x4.cell? ⟨w.heap.size, 1, none⟩ = some (.int .i64 fl) := by rw [hx4]; exact (set_other4 (by decide)).trans p1
  have p2 : x4.cell? ⟨w.heap.size, 2, none⟩ = some (.slice va xs.length ca) := by rw [hx4]; exact set_same4 _ p2
  have v0 : x4.cell? ⟨w.heap.size + 1, 0, none⟩ = some (.int .i64 0) := (oX.cell (by show w.heap.size + 1 < _; omega) (by show w.heap.size + 1 ≠ _; omega)).trans v0
  have v1 : x4.cell? ⟨w.heap.size + 1, 1, none⟩ = some (.int .i64 0) := (oX.cell (by show w.heap.size + 1 < _; omega) (by show w.heap.size + 1 ≠ _; omega)).trans v1
  have v2 : x4.cell? ⟨w.heap.size + 1, 2, none⟩ = some (.slice none 0 0) := (oX.cell (by show w.heap.size + 1 < _; omega) (by show w.heap.size + 1 ≠ _; omega)).trans v2
  have vz : ∀ o : Nat, x4.frozen? ⟨w.heap.size + 1, o, none⟩ = false := fun o => (oX.frozen (by show w.heap.size + 1 < _; omega) (by show w.heap.size + 1 ≠ _; omega)).trans (vz o)
  have iv : IV x4 x.heap.size (.slice va xs.length ca) xs := iv.onlyO (OnlyO.of_only oX) (fun g hg e => by have := (iv.own hg).1; injection e with e; omega)
  have hbw : Below w.heap.size w x4 := hbw.trans (oX.below (Nat.le_refl _) (by omega))
  have zl : w.heap.size + 1 + 1 ≤ x4.heap.size := Nat.le_trans zl oX.size
  clear hx4 oX own3 gr3 HSM
  go_wp2
  obtain ⟨y, ey, cs, fzy, sz, hbel, hon⟩ := over3 (.int .i64 wd) (.int .i64 fl) (.slice va xs.length ca) (w := x4) (g := w.heap.size + 1) v0 v1 v2
  rw [← ey]
  refine bodyPost_ret (results_one rfl _ _ _ [.int .i64 wd, .int .i64 fl, .slice va xs.length ca] rfl cs Try.underlying37 rfl (by kernel_rfl)) rfl ?_
  exact ⟨va, xs.length, ca, rfl, (iv.onlyO (OnlyO.of_only hon) (fun g hg e => by have := (iv.own hg).1; injection e with e; omega)).lower (by omega), hbw.trans (hbel _ (by omega))⟩
end Go.Proofs.Ytoeiheccmpjclaf

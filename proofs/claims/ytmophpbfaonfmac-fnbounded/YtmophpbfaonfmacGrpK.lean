/- Lemmas on the way, of several texts: SpecBuck4, ImplBuckA, ImplBuckB, ImplBuck. -/
import Derived.Test.YtmophpbfaonfmacGrpG
import Derived.Deep.DeepCutAuto
import Derived.Test.YtmophpbfaonfmacGrpC
import Derived.Deep.RegionHeld3
namespace Go.Proofs.Ytmophpbfaonfmac
open Go.ChangeShapes Go.WideShapes Go.ChangeAt Go.RowKit
set_option maxRecDepth 100000
set_option linter.unusedVariables false

theorem size1b {w w' : World} {A : Obj} (h : Below (w.alloc A).heap.size (w.alloc A) w') : w.heap.size < w'.heap.size := by
  have := h.size
  simp at this
  omega
def takeOk (r u l t now n : Int) : Bool := (bokB r u l t && timeB now) && segB n
def takeF (r u l t now n : Int) : Bool := takeOk r u l t now n && decide (1000000000 * n ≤ fillL r u l t now)
def takeOf (r u l t now n : Int) : Int × Int × Int × Int := if takeOk r u l t now n = true then (r, u, (if 1000000000 * n ≤ fillL r u l t now then fillL r u l t now - 1000000000 * n else fillL r u l t now), fillT t now) else (0, 0, 0, 0)
def whenOk (r u l t n : Int) : Bool := bokB r u l t && segB n
def whenOf (r u l t n : Int) : Int := if whenOk r u l t n = true then (if 1000000000 * n - l ≤ 0 then t else if u < n ∨ r = 0 then 1000000000000000 else min 1000000000000000 (t + (1000000000 * n - l + r - 1) / r)) else -1
theorem when_no {r u l t n : Int} (h : whenOk r u l t n = false) : whenOf r u l t n = -1 := by unfold whenOf; rw [h]; rfl
def resetOk (r u l t r' u' now : Int) : Bool := ((bokB r u l t && rateB r') && winB u') && timeB now
def resetOf (r u l t r' u' now : Int) : Int × Int × Int × Int := if resetOk r u l t r' u' now = true then (r', u', min (fillL r u l t now) (1000000000 * u'), fillT t now) else (0, 0, 0, 0)
theorem reset_no {r u l t r' u' now : Int} (h : resetOk r u l t r' u' now = false) : resetOf r u l t r' u' now = (0, 0, 0, 0) := by unfold resetOf; rw [h]; rfl
set_option maxHeartbeats 4000000 in
theorem specReset_any (r u l t r' u' now : Int) (w : World) : Calls Try.prog 16 #[.agg #[.int .i64 r, .int .i64 u, .int .i64 l, .int .i64 t], .int .i64 r', .int .i64 u', .int .i64 now] w fun e w' => e = .returned (bkV (resetOf r u l t r' u' now)) ∧ Below w.heap.size w w' := by
  cases h1 : bokB r u l t
  · rw [reset_no (by unfold resetOk; rw [h1]; rfl)]
    go_enter Try.func16, Try.ntmps16
    go_wp2_with (first
      | (go_at_call 55; refine (specBucketOk_any _ _ _ _ _).mono ?_; rintro e w2 ⟨rfl, hb2⟩; rw [h1]; have kc := below_cells4 hb2; have kf := below_frozens4 hb2; have zb := hb2.size; have hbw := start2 hb2; have y1 := size2b hb2; have y0 := Nat.lt_of_succ_lt y1))
    refine bodyPost_ret (results_one rfl _ _ _ [.int .i64 0, .int .i64 0, .int .i64 0, .int .i64 0] rfl (cells_set4 (u0 := .int .i64 0) (u1 := .int .i64 0) (u2 := .int .i64 0) (u3 := .int .i64 0) _ _ _ _ ?_ ?_ ?_ ?_) Try.underlying25 rfl (by kernel_rfl)) rfl ?_
    · go_simp
    · go_simp
    · go_simp
    · go_simp
    exact ⟨rfl, by go_grown⟩
  · cases h4 : rateB r'
    · rw [reset_no (by unfold resetOk; rw [h1, h4]; rfl)]
      go_enter Try.func16, Try.ntmps16
      go_wp2_with (first
        | (go_at_call 55; refine (specBucketOk_any _ _ _ _ _).mono ?_; rintro e w2 ⟨rfl, hb2⟩; rw [h1]; have kc := below_cells4 hb2; have kf := below_frozens4 hb2; have zb := hb2.size; have hbw := start2 hb2; have y1 := size2b hb2; have y0 := Nat.lt_of_succ_lt y1)
        | (go_at_call 63; refine (rate_any _ _).mono ?_; rintro e w2 ⟨rfl, rfl⟩; rw [h4]))
      refine bodyPost_ret (results_one rfl _ _ _ [.int .i64 0, .int .i64 0, .int .i64 0, .int .i64 0] rfl (cells_set4 (u0 := .int .i64 0) (u1 := .int .i64 0) (u2 := .int .i64 0) (u3 := .int .i64 0) _ _ _ _ ?_ ?_ ?_ ?_) Try.underlying25 rfl (by kernel_rfl)) rfl ?_
      · go_simp
      · go_simp
      · go_simp
      · go_simp
      exact ⟨rfl, by go_grown⟩
    · cases h5 : winB u'
      · rw [reset_no (by unfold resetOk; rw [h1, h4, h5]; rfl)]
        go_enter Try.func16, Try.ntmps16
        go_wp2_with (first
          | (go_at_call 55; refine (specBucketOk_any _ _ _ _ _).mono ?_; rintro e w2 ⟨rfl, hb2⟩; rw [h1]; have kc := below_cells4 hb2; have kf := below_frozens4 hb2; have zb := hb2.size; have hbw := start2 hb2; have y1 := size2b hb2; have y0 := Nat.lt_of_succ_lt y1)
          | (go_at_call 63; refine (rate_any _ _).mono ?_; rintro e w2 ⟨rfl, rfl⟩; rw [h4])
          | (go_at_call 64; refine (window_any _ _).mono ?_; rintro e w2 ⟨rfl, rfl⟩; rw [h5]))
        refine bodyPost_ret (results_one rfl _ _ _ [.int .i64 0, .int .i64 0, .int .i64 0, .int .i64 0] rfl (cells_set4 (u0 := .int .i64 0) (u1 := .int .i64 0) (u2 := .int .i64 0) (u3 := .int .i64 0) _ _ _ _ ?_ ?_ ?_ ?_) Try.underlying25 rfl (by kernel_rfl)) rfl ?_
        · go_simp
        · go_simp
        · go_simp
        · go_simp
        exact ⟨rfl, by go_grown⟩
      · cases h2 : timeB now
        · rw [reset_no (by unfold resetOk; rw [h1, h4, h5, h2]; rfl)]
          go_enter Try.func16, Try.ntmps16
          go_wp2_with (first
            | (go_at_call 55; refine (specBucketOk_any _ _ _ _ _).mono ?_; rintro e w2 ⟨rfl, hb2⟩; rw [h1]; have kc := below_cells4 hb2; have kf := below_frozens4 hb2; have zb := hb2.size; have hbw := start2 hb2; have y1 := size2b hb2; have y0 := Nat.lt_of_succ_lt y1)
            | (go_at_call 63; refine (rate_any _ _).mono ?_; rintro e w2 ⟨rfl, rfl⟩; rw [h4])
            | (go_at_call 64; refine (window_any _ _).mono ?_; rintro e w2 ⟨rfl, rfl⟩; rw [h5])
            | (go_at_call 56; refine (time_any _ _).mono ?_; rintro e w2 ⟨rfl, rfl⟩; rw [h2]))
          refine bodyPost_ret (results_one rfl _ _ _ [.int .i64 0, .int .i64 0, .int .i64 0, .int .i64 0] rfl (cells_set4 (u0 := .int .i64 0) (u1 := .int .i64 0) (u2 := .int .i64 0) (u3 := .int .i64 0) _ _ _ _ ?_ ?_ ?_ ?_) Try.underlying25 rfl (by kernel_rfl)) rfl ?_
          · go_simp
          · go_simp
          · go_simp
          · go_simp
          exact ⟨rfl, by go_grown⟩
        · have hw : resetOf r u l t r' u' now = (r', u', min (fillL r u l t now) (1000000000 * u'), fillT t now) := by unfold resetOf resetOk; rw [h1, h4, h5, h2]; rfl
          rw [hw]
          have n5 := win_num h5
          obtain ⟨nr, nu, nl, nt⟩ := bok_num h1
          have nf := fill_bounds (now := now) (t := t) nu nl nr.1
          clear hw
          go_enter Try.func16, Try.ntmps16
          go_upto_region 4 with (first
            | (go_at_call 55; refine (specBucketOk_any _ _ _ _ _).mono ?_; rintro e w2 ⟨rfl, hb2⟩; rw [h1]; have kc := below_cells4 hb2; have kf := below_frozens4 hb2; have zb := hb2.size; have hbw := start2 hb2; have y1 := size2b hb2; have y0 := Nat.lt_of_succ_lt y1)
            | (go_at_call 63; refine (rate_any _ _).mono ?_; rintro e w2 ⟨rfl, rfl⟩; rw [h4])
            | (go_at_call 64; refine (window_any _ _).mono ?_; rintro e w2 ⟨rfl, rfl⟩; rw [h5])
            | (go_at_call 56; refine (time_any _ _).mono ?_; rintro e w2 ⟨rfl, rfl⟩; rw [h2])
            | (go_at_call 57; refine (l4Fill_any _ h1 h2).mono ?_; rintro e w3 ⟨rfl, hb3⟩; have kc3 := below_cells4 hb3; have kf3 := below_frozens4 hb3; have zb3 := hb3.size; have hbw := below_two hbw hb3; have q0 : w3.cell? ⟨w.heap.size, 0, none⟩ = some (.int .i64 r) := (kc3 _ _ y0).trans ((kc _ _ (by simp; omega)).trans (by go_simp)); have q1 : w3.cell? ⟨w.heap.size, 1, none⟩ = some (.int .i64 u) := (kc3 _ _ y0).trans ((kc _ _ (by simp; omega)).trans (by go_simp)); have q2 : w3.cell? ⟨w.heap.size, 2, none⟩ = some (.int .i64 l) := (kc3 _ _ y0).trans ((kc _ _ (by simp; omega)).trans (by go_simp)); have q3 : w3.cell? ⟨w.heap.size, 3, none⟩ = some (.int .i64 t) := (kc3 _ _ y0).trans ((kc _ _ (by simp; omega)).trans (by go_simp)); obtain ⟨w4, hw4, s0, s1, s2, s3, hfar, hfro, hsz, hbel⟩ := over4 (.int .i64 r) (.int .i64 u) (.int .i64 (fillL r u l t now)) (.int .i64 (fillT t now)) q0 q1 q2 q3))
          rw [← hw4]
          have z4 : w.heap.size + 1 < w4.heap.size := by rw [hsz]; omega
          have r0 : w4.cell? ⟨w.heap.size + 1, 0, none⟩ = some (.int .i64 0) := (hfar _ _ (by omega)).trans ((kc3 _ _ y1).trans ((kc _ _ (by simp)).trans (by go_simp)))
          have r1 : w4.cell? ⟨w.heap.size + 1, 1, none⟩ = some (.int .i64 0) := (hfar _ _ (by omega)).trans ((kc3 _ _ y1).trans ((kc _ _ (by simp)).trans (by go_simp)))
          have r2 : w4.cell? ⟨w.heap.size + 1, 2, none⟩ = some (.int .i64 0) := (hfar _ _ (by omega)).trans ((kc3 _ _ y1).trans ((kc _ _ (by simp)).trans (by go_simp)))
          have r3 : w4.cell? ⟨w.heap.size + 1, 3, none⟩ = some (.int .i64 0) := (hfar _ _ (by omega)).trans ((kc3 _ _ y1).trans ((kc _ _ (by simp)).trans (by go_simp)))
          have fR : ∀ o : Nat, w4.frozen? ⟨w.heap.size + 1, o, none⟩ = false := fun o => (hfro _ _).trans ((kf3 _ _ y1).trans ((kf _ _ (by simp)).trans (by go_simp)))
          have fB : ∀ o : Nat, w4.frozen? ⟨w.heap.size, o, none⟩ = false := fun o => (hfro _ _).trans ((kf3 _ _ y0).trans ((kf _ _ (by simp; omega)).trans (by go_simp)))
          have hbw := hbw.trans (hbel w.heap.size (Nat.le_refl _))
          clear hw4 hfar hfro hsz hbel q0 q1 q2 q3 kc kf kc3 kf3
          go_wp2_with (first
            | (go_at_call 65; refine (min_any _ _ _).mono ?_; rintro e w5 ⟨rfl, rfl⟩))
          refine bodyPost_ret (results_one rfl _ _ _ [.int .i64 r', .int .i64 u', .int .i64 (min (fillL r u l t now) (1000000000 * u')), .int .i64 (fillT t now)] rfl (cells_set4 (u0 := .int .i64 0) (u1 := .int .i64 0) (u2 := .int .i64 0) (u3 := .int .i64 0) _ _ _ _ ?_ ?_ ?_ ?_) Try.underlying25 rfl (by kernel_rfl)) rfl ?_
          · go_simp
          · go_simp
          · go_simp
          · go_simp
          exact ⟨rfl, by go_grown⟩
end Go.Proofs.Ytmophpbfaonfmac
namespace Go.Proofs.Ytmophpbfaonfmac
open Go.ChangeShapes Go.WideShapes Go.ChangeAt Go.RowKit
set_option maxRecDepth 100000
set_option linter.unusedVariables false
set_option linter.unusedSimpArgs false

theorem iwin_any (x : Int) (w : World) : Calls Try.prog 61 #[.int .i64 x] w fun e w' => e = .returned (.bool (winB x)) ∧ w' = w := by
  go_enter Try.func61, Try.ntmps61
  go_wp2_with (first | (go_at_call 66; refine (iwithin_any _ _ _ _).mono ?_; rintro e w2 ⟨rfl, rfl⟩))
  go_ret
  exact ⟨rfl, rfl⟩
theorem iseg_any (x : Int) (w : World) : Calls Try.prog 143 #[.int .i64 x] w fun e w' => e = .returned (.bool (segB x)) ∧ w' = w := by
  go_enter Try.func143, Try.ntmps143
  go_wp2_with (first | (go_at_call 66; refine (iwithin_any _ _ _ _).mono ?_; rintro e w2 ⟨rfl, rfl⟩))
  go_ret
  exact ⟨rfl, rfl⟩
theorem ifull_any (r u l t : Int) (w : World) (hu : 0 ≤ u ∧ u ≤ 1000000000) : Calls Try.prog 62 #[.agg #[.int .i64 r, .int .i64 u, .int .i64 l, .int .i64 t]] w fun e w' => e = .returned (.int .i64 (1000000000 * u)) ∧ Below w.heap.size w w' := by
  have e0 : IntKind.i64.wrap (u * 1000000000) = u * 1000000000 := by rw [IntKind.wrap_i64]; omega
  rw [Int.mul_comm]
  go_enter Try.func62, Try.ntmps62
  go_wp2
  go_ret
  exact ⟨rfl, by go_grown⟩
theorem ihas_any (r u l t n : Int) (w : World) (hn : 1 ≤ n ∧ n ≤ 1500) : Calls Try.prog 144 #[.agg #[.int .i64 r, .int .i64 u, .int .i64 l, .int .i64 t], .int .i64 n] w fun e w' => e = .returned (.bool (decide (1000000000 * n ≤ l))) ∧ Below w.heap.size w w' := by
  have e0 : IntKind.i64.wrap (n * 1000000000) = n * 1000000000 := by rw [IntKind.wrap_i64]; omega
  rw [Int.mul_comm]
  go_enter Try.func144, Try.ntmps144
  go_wp2
  go_ret
  exact ⟨rfl, by go_grown⟩
theorem four_next {w w2 : World} {b : Nat} {x y z v : Value} (h : w.cell? ⟨b, 0, none⟩ = some x ∧ w.cell? ⟨b, 1, none⟩ = some y ∧ w.cell? ⟨b, 2, none⟩ = some z ∧ w.cell? ⟨b, 3, none⟩ = some v) (hb : Below w.heap.size w w2) (h0 : b < w.heap.size) :
    w2.cell? ⟨b, 0, none⟩ = some x ∧ w2.cell? ⟨b, 1, none⟩ = some y ∧ w2.cell? ⟨b, 2, none⟩ = some z ∧ w2.cell? ⟨b, 3, none⟩ = some v :=
  ⟨(below_cells4 hb _ _ h0).trans h.1, (below_cells4 hb _ _ h0).trans h.2.1, (below_cells4 hb _ _ h0).trans h.2.2.1, (below_cells4 hb _ _ h0).trans h.2.2.2⟩
theorem bok_order (r u l t : Int) : bokB r u l t = (((rateB r && winB u) && timeB t) && lvlB u l) := by
  unfold bokB
  cases rateB r <;> cases winB u <;> cases timeB t <;> cases lvlB u l <;> rfl
set_option maxHeartbeats 2000000 in
theorem implBucketOk_any (r u l t : Int) (w : World) : Calls Try.prog 17 #[.agg #[.int .i64 r, .int .i64 u, .int .i64 l, .int .i64 t]] w fun e w' => e = .returned (.bool (bokB r u l t)) ∧ Below w.heap.size w w' := by
  rw [bok_order]
  cases h1 : rateB r
  · show Calls _ _ _ _ fun e w' => e = .returned (.bool false) ∧ Below w.heap.size w w'
    go_enter Try.func17, Try.ntmps17
    go_wp2
    refine wp_region_held_drew (S := fun w' => w'.cell? ⟨w.heap.size, 0, none⟩ = some (.int .i64 r) ∧ w'.cell? ⟨w.heap.size, 1, none⟩ = some (.int .i64 u) ∧ w'.cell? ⟨w.heap.size, 2, none⟩ = some (.int .i64 l) ∧ w'.cell? ⟨w.heap.size, 3, none⟩ = some (.int .i64 t)) (by kernel_rfl) (⟨by go_simp, by go_simp, by go_simp, by go_simp⟩) (fun hS => ?_)
    refine wpAnyH_take (i := 0) (v := ?_) rfl (by kernel_rfl) (by kernel_rfl) (by kernel_rfl) (fun _ _ _ h => h) (Or.inl ⟨by rfl, ?_⟩) (by assumption) ?_
    rotate_left 1
    · (intro w' hSw; (try dsimp only at hSw); go_simp; try with_reducible rfl)
    try simp only [Act.put, List.setIfInBounds_toArray, List.set_cons_zero, List.set_cons_succ, List.getElem_toArray, List.getElem_cons_succ, List.getElem_cons_zero]
    refine wpAnyH_take (i := 1) (v := ?_) rfl (by kernel_rfl) (by kernel_rfl) (by kernel_rfl) (fun _ _ _ h => h) (Or.inl ⟨by rfl, ?_⟩) (by assumption) ?_
    rotate_left 1
    · (intro w' hSw; (try dsimp only at hSw); go_simp; try with_reducible rfl)
    try simp only [Act.put, List.setIfInBounds_toArray, List.set_cons_zero, List.set_cons_succ, List.getElem_toArray, List.getElem_cons_succ, List.getElem_cons_zero]
    refine wpAnyH_ready (rs := [2]) (by kernel_rfl) (by simp) (AllReadyH.cons rfl (fun K hK => ?_) AllReadyH.nil)
    go_simp
    (refine (irate_any _ _).mono ?_; rintro e w2 ⟨rfl, rfl⟩; rw [h1])
    refine hK.out _ _ (by assumption) (fun _ => ?_)
    try simp only [Act.put, List.setIfInBounds_toArray, List.set_cons_zero, List.set_cons_succ, List.getElem_toArray, List.getElem_cons_succ, List.getElem_cons_zero]
    refine wpAnyH_take (i := 3) (v := ?_) rfl (by kernel_rfl) (by kernel_rfl) (by kernel_rfl) (fun _ _ _ h => h) (Or.inl ⟨by rfl, ?_⟩) (by assumption) ?_
    rotate_left 1
    · (intro w' hSw; (try dsimp only at hSw); go_simp; try with_reducible rfl)
    try simp only [Act.put, List.setIfInBounds_toArray, List.set_cons_zero, List.set_cons_succ, List.getElem_toArray, List.getElem_cons_succ, List.getElem_cons_zero]
    refine wpAnyH_take (i := 4) (v := undef) rfl (by kernel_rfl) (by kernel_rfl) (by kernel_rfl) (fun _ _ _ h => h) (Or.inr ⟨by rfl, rfl⟩) (by assumption) ?_
    try simp only [Act.put, List.setIfInBounds_toArray, List.set_cons_zero, List.set_cons_succ, List.getElem_toArray, List.getElem_cons_succ, List.getElem_cons_zero]
    refine wpAnyH_take (i := 5) (v := undef) rfl (by kernel_rfl) (by kernel_rfl) (by kernel_rfl) (fun _ _ _ h => h) (Or.inr ⟨by rfl, rfl⟩) (by assumption) ?_
    try simp only [Act.put, List.setIfInBounds_toArray, List.set_cons_zero, List.set_cons_succ, List.getElem_toArray, List.getElem_cons_succ, List.getElem_cons_zero]
    refine wpAnyH_take (i := 6) (v := undef) rfl (by kernel_rfl) (by kernel_rfl) (by kernel_rfl) (fun _ _ _ h => h) (Or.inr ⟨by rfl, rfl⟩) (by assumption) ?_
    try simp only [Act.put, List.setIfInBounds_toArray, List.set_cons_zero, List.set_cons_succ, List.getElem_toArray, List.getElem_cons_succ, List.getElem_cons_zero]
    refine wpAnyH_take (i := 7) (v := ?_) rfl (by kernel_rfl) (by kernel_rfl) (by kernel_rfl) (fun _ _ _ h => h) (Or.inl ⟨by rfl, ?_⟩) (by assumption) ?_
    rotate_left 1
    · (intro w' hSw; (try dsimp only at hSw); go_simp; try with_reducible rfl)
    try simp only [Act.put, List.setIfInBounds_toArray, List.set_cons_zero, List.set_cons_succ, List.getElem_toArray, List.getElem_cons_succ, List.getElem_cons_zero]
    refine wpAnyH_take (i := 8) (v := ?_) rfl (by kernel_rfl) (by kernel_rfl) (by kernel_rfl) (fun _ _ _ h => h) (Or.inl ⟨by rfl, ?_⟩) (by assumption) ?_
    rotate_left 1
    · (intro w' hSw; (try dsimp only at hSw); go_simp; try with_reducible rfl)
    try simp only [Act.put, List.setIfInBounds_toArray, List.set_cons_zero, List.set_cons_succ, List.getElem_toArray, List.getElem_cons_succ, List.getElem_cons_zero]
    refine wpAnyH_take (i := 9) (v := undef) rfl (by kernel_rfl) (by kernel_rfl) (by kernel_rfl) (fun _ _ _ h => h) (Or.inr ⟨by rfl, rfl⟩) (by assumption) ?_
    try simp only [Act.put, List.setIfInBounds_toArray, List.set_cons_zero, List.set_cons_succ, List.getElem_toArray, List.getElem_cons_succ, List.getElem_cons_zero]
    refine wpAnyH_take (i := 10) (v := undef) rfl (by kernel_rfl) (by kernel_rfl) (by kernel_rfl) (fun _ _ _ h => h) (Or.inr ⟨by rfl, rfl⟩) (by assumption) ?_
    try simp only [Act.put, List.setIfInBounds_toArray, List.set_cons_zero, List.set_cons_succ, List.getElem_toArray, List.getElem_cons_succ, List.getElem_cons_zero]
    refine wpAnyH_take (i := 11) (v := undef) rfl (by kernel_rfl) (by kernel_rfl) (by kernel_rfl) (fun _ _ _ h => h) (Or.inr ⟨by rfl, rfl⟩) (by assumption) ?_
    try simp only [Act.put, List.setIfInBounds_toArray, List.set_cons_zero, List.set_cons_succ, List.getElem_toArray, List.getElem_cons_succ, List.getElem_cons_zero]
    refine wpAnyH_take (i := 12) (v := ?_) rfl (by kernel_rfl) (by kernel_rfl) (by kernel_rfl) (fun _ _ _ h => h) (Or.inl ⟨by rfl, ?_⟩) (by assumption) ?_
    rotate_left 1
    · (intro w' hSw; (try dsimp only at hSw); go_simp; try with_reducible rfl)
    try simp only [Act.put, List.setIfInBounds_toArray, List.set_cons_zero, List.set_cons_succ, List.getElem_toArray, List.getElem_cons_succ, List.getElem_cons_zero]
    refine wpAnyH_take (i := 13) (v := ?_) rfl (by kernel_rfl) (by kernel_rfl) (by kernel_rfl) (fun _ _ _ h => h) (Or.inl ⟨by rfl, ?_⟩) (by assumption) ?_
    rotate_left 1
    · (intro w' hSw; (try dsimp only at hSw); go_simp; try with_reducible rfl)
    try simp only [Act.put, List.setIfInBounds_toArray, List.set_cons_zero, List.set_cons_succ, List.getElem_toArray, List.getElem_cons_succ, List.getElem_cons_zero]
    refine wpAnyH_take (i := 14) (v := undef) rfl (by kernel_rfl) (by kernel_rfl) (by kernel_rfl) (fun _ _ _ h => h) (Or.inr ⟨by rfl, rfl⟩) (by assumption) ?_
    try simp only [Act.put, List.setIfInBounds_toArray, List.set_cons_zero, List.set_cons_succ, List.getElem_toArray, List.getElem_cons_succ, List.getElem_cons_zero]
    refine wpAnyH_take (i := 15) (v := undef) rfl (by kernel_rfl) (by kernel_rfl) (by kernel_rfl) (fun _ _ _ h => h) (Or.inr ⟨by rfl, rfl⟩) (by assumption) ?_
    try simp only [Act.put, List.setIfInBounds_toArray, List.set_cons_zero, List.set_cons_succ, List.getElem_toArray, List.getElem_cons_succ, List.getElem_cons_zero]
    refine wpAnyH_take (i := 16) (v := undef) rfl (by kernel_rfl) (by kernel_rfl) (by kernel_rfl) (fun _ _ _ h => h) (Or.inr ⟨by rfl, rfl⟩) (by assumption) ?_
    try simp only [Act.put, List.setIfInBounds_toArray, List.set_cons_zero, List.set_cons_succ, List.getElem_toArray, List.getElem_cons_succ, List.getElem_cons_zero]
    refine wpAnyH_take (i := 17) (v := undef) rfl (by kernel_rfl) (by kernel_rfl) (by kernel_rfl) (fun _ _ _ h => h) (Or.inr ⟨by rfl, rfl⟩) (by assumption) ?_
    try simp only [Act.put, List.setIfInBounds_toArray, List.set_cons_zero, List.set_cons_succ, List.getElem_toArray, List.getElem_cons_succ, List.getElem_cons_zero]
    refine wpAnyH_take (i := 18) (v := undef) rfl (by kernel_rfl) (by kernel_rfl) (by kernel_rfl) (fun _ _ _ h => h) (Or.inr ⟨by rfl, rfl⟩) (by assumption) ?_
    try simp only [Act.put, List.setIfInBounds_toArray, List.set_cons_zero, List.set_cons_succ, List.getElem_toArray, List.getElem_cons_succ, List.getElem_cons_zero]
    refine wpAnyH_take (i := 19) (v := ?_) rfl (by kernel_rfl) (by kernel_rfl) (by kernel_rfl) (fun _ _ _ h => h) (Or.inl ⟨by rfl, ?_⟩) (by assumption) ?_
    rotate_left 1
    · (intro w' hSw; (try dsimp only at hSw); go_simp; try with_reducible rfl)
    try simp only [Act.put, List.setIfInBounds_toArray, List.set_cons_zero, List.set_cons_succ, List.getElem_toArray, List.getElem_cons_succ, List.getElem_cons_zero]
    refine wpAnyH_take (i := 20) (v := ?_) rfl (by kernel_rfl) (by kernel_rfl) (by kernel_rfl) (fun _ _ _ h => h) (Or.inl ⟨by rfl, ?_⟩) (by assumption) ?_
    rotate_left 1
    · (intro w' hSw; (try dsimp only at hSw); go_simp; try with_reducible rfl)
    try simp only [Act.put, List.setIfInBounds_toArray, List.set_cons_zero, List.set_cons_succ, List.getElem_toArray, List.getElem_cons_succ, List.getElem_cons_zero]
    refine wpAnyH_done (by kernel_rfl) ?_ _
    go_wp2
    go_ret
    exact ⟨rfl, by go_grown⟩
  · cases h2 : winB u
    · show Calls _ _ _ _ fun e w' => e = .returned (.bool false) ∧ Below w.heap.size w w'
      go_enter Try.func17, Try.ntmps17
      go_wp2
      refine wp_region_held_drew (S := fun w' => w'.cell? ⟨w.heap.size, 0, none⟩ = some (.int .i64 r) ∧ w'.cell? ⟨w.heap.size, 1, none⟩ = some (.int .i64 u) ∧ w'.cell? ⟨w.heap.size, 2, none⟩ = some (.int .i64 l) ∧ w'.cell? ⟨w.heap.size, 3, none⟩ = some (.int .i64 t)) (by kernel_rfl) (⟨by go_simp, by go_simp, by go_simp, by go_simp⟩) (fun hS => ?_)
      refine wpAnyH_take (i := 0) (v := ?_) rfl (by kernel_rfl) (by kernel_rfl) (by kernel_rfl) (fun _ _ _ h => h) (Or.inl ⟨by rfl, ?_⟩) (by assumption) ?_
      rotate_left 1
      · (intro w' hSw; (try dsimp only at hSw); go_simp; try with_reducible rfl)
      try simp only [Act.put, List.setIfInBounds_toArray, List.set_cons_zero, List.set_cons_succ, List.getElem_toArray, List.getElem_cons_succ, List.getElem_cons_zero]
      refine wpAnyH_take (i := 1) (v := ?_) rfl (by kernel_rfl) (by kernel_rfl) (by kernel_rfl) (fun _ _ _ h => h) (Or.inl ⟨by rfl, ?_⟩) (by assumption) ?_
      rotate_left 1
      · (intro w' hSw; (try dsimp only at hSw); go_simp; try with_reducible rfl)
      try simp only [Act.put, List.setIfInBounds_toArray, List.set_cons_zero, List.set_cons_succ, List.getElem_toArray, List.getElem_cons_succ, List.getElem_cons_zero]
      refine wpAnyH_ready (rs := [2]) (by kernel_rfl) (by simp) (AllReadyH.cons rfl (fun K hK => ?_) AllReadyH.nil)
      go_simp
      (refine (irate_any _ _).mono ?_; rintro e w2 ⟨rfl, rfl⟩; rw [h1])
      refine hK.out _ _ (by assumption) (fun _ => ?_)
      try simp only [Act.put, List.setIfInBounds_toArray, List.set_cons_zero, List.set_cons_succ, List.getElem_toArray, List.getElem_cons_succ, List.getElem_cons_zero]
      refine wpAnyH_take (i := 3) (v := ?_) rfl (by kernel_rfl) (by kernel_rfl) (by kernel_rfl) (fun _ _ _ h => h) (Or.inl ⟨by rfl, ?_⟩) (by assumption) ?_
      rotate_left 1
      · (intro w' hSw; (try dsimp only at hSw); go_simp; try with_reducible rfl)
      try simp only [Act.put, List.setIfInBounds_toArray, List.set_cons_zero, List.set_cons_succ, List.getElem_toArray, List.getElem_cons_succ, List.getElem_cons_zero]
      refine wpAnyH_take (i := 4) (v := ?_) rfl (by kernel_rfl) (by kernel_rfl) (by kernel_rfl) (fun _ _ _ h => h) (Or.inl ⟨by rfl, ?_⟩) (by assumption) ?_
      rotate_left 1
      · (intro w' hSw; (try dsimp only at hSw); go_simp; try with_reducible rfl)
      try simp only [Act.put, List.setIfInBounds_toArray, List.set_cons_zero, List.set_cons_succ, List.getElem_toArray, List.getElem_cons_succ, List.getElem_cons_zero]
      refine wpAnyH_take (i := 5) (v := ?_) rfl (by kernel_rfl) (by kernel_rfl) (by kernel_rfl) (fun _ _ _ h => h) (Or.inl ⟨by rfl, ?_⟩) (by assumption) ?_
      rotate_left 1
      · (intro w' hSw; (try dsimp only at hSw); go_simp; try with_reducible rfl)
      try simp only [Act.put, List.setIfInBounds_toArray, List.set_cons_zero, List.set_cons_succ, List.getElem_toArray, List.getElem_cons_succ, List.getElem_cons_zero]
      refine wpAnyH_ready (rs := [6]) (by kernel_rfl) (by simp) (AllReadyH.cons rfl (fun K hK => ?_) AllReadyH.nil)
      go_simp
      (refine (iwin_any _ _).mono ?_; rintro e w2 ⟨rfl, rfl⟩; rw [h2])
      refine hK.out _ _ (by assumption) (fun _ => ?_)
      try simp only [Act.put, List.setIfInBounds_toArray, List.set_cons_zero, List.set_cons_succ, List.getElem_toArray, List.getElem_cons_succ, List.getElem_cons_zero]
      refine wpAnyH_take (i := 7) (v := ?_) rfl (by kernel_rfl) (by kernel_rfl) (by kernel_rfl) (fun _ _ _ h => h) (Or.inl ⟨by rfl, ?_⟩) (by assumption) ?_
      rotate_left 1
      · (intro w' hSw; (try dsimp only at hSw); go_simp; try with_reducible rfl)
      try simp only [Act.put, List.setIfInBounds_toArray, List.set_cons_zero, List.set_cons_succ, List.getElem_toArray, List.getElem_cons_succ, List.getElem_cons_zero]
      refine wpAnyH_take (i := 8) (v := ?_) rfl (by kernel_rfl) (by kernel_rfl) (by kernel_rfl) (fun _ _ _ h => h) (Or.inl ⟨by rfl, ?_⟩) (by assumption) ?_
      rotate_left 1
      · (intro w' hSw; (try dsimp only at hSw); go_simp; try with_reducible rfl)
      try simp only [Act.put, List.setIfInBounds_toArray, List.set_cons_zero, List.set_cons_succ, List.getElem_toArray, List.getElem_cons_succ, List.getElem_cons_zero]
      refine wpAnyH_take (i := 9) (v := undef) rfl (by kernel_rfl) (by kernel_rfl) (by kernel_rfl) (fun _ _ _ h => h) (Or.inr ⟨by rfl, rfl⟩) (by assumption) ?_
      try simp only [Act.put, List.setIfInBounds_toArray, List.set_cons_zero, List.set_cons_succ, List.getElem_toArray, List.getElem_cons_succ, List.getElem_cons_zero]
      refine wpAnyH_take (i := 10) (v := undef) rfl (by kernel_rfl) (by kernel_rfl) (by kernel_rfl) (fun _ _ _ h => h) (Or.inr ⟨by rfl, rfl⟩) (by assumption) ?_
      try simp only [Act.put, List.setIfInBounds_toArray, List.set_cons_zero, List.set_cons_succ, List.getElem_toArray, List.getElem_cons_succ, List.getElem_cons_zero]
      refine wpAnyH_take (i := 11) (v := undef) rfl (by kernel_rfl) (by kernel_rfl) (by kernel_rfl) (fun _ _ _ h => h) (Or.inr ⟨by rfl, rfl⟩) (by assumption) ?_
      try simp only [Act.put, List.setIfInBounds_toArray, List.set_cons_zero, List.set_cons_succ, List.getElem_toArray, List.getElem_cons_succ, List.getElem_cons_zero]
      refine wpAnyH_take (i := 12) (v := ?_) rfl (by kernel_rfl) (by kernel_rfl) (by kernel_rfl) (fun _ _ _ h => h) (Or.inl ⟨by rfl, ?_⟩) (by assumption) ?_
      rotate_left 1
      · (intro w' hSw; (try dsimp only at hSw); go_simp; try with_reducible rfl)
      try simp only [Act.put, List.setIfInBounds_toArray, List.set_cons_zero, List.set_cons_succ, List.getElem_toArray, List.getElem_cons_succ, List.getElem_cons_zero]
      refine wpAnyH_take (i := 13) (v := ?_) rfl (by kernel_rfl) (by kernel_rfl) (by kernel_rfl) (fun _ _ _ h => h) (Or.inl ⟨by rfl, ?_⟩) (by assumption) ?_
      rotate_left 1
      · (intro w' hSw; (try dsimp only at hSw); go_simp; try with_reducible rfl)
      try simp only [Act.put, List.setIfInBounds_toArray, List.set_cons_zero, List.set_cons_succ, List.getElem_toArray, List.getElem_cons_succ, List.getElem_cons_zero]
      refine wpAnyH_take (i := 14) (v := undef) rfl (by kernel_rfl) (by kernel_rfl) (by kernel_rfl) (fun _ _ _ h => h) (Or.inr ⟨by rfl, rfl⟩) (by assumption) ?_
      try simp only [Act.put, List.setIfInBounds_toArray, List.set_cons_zero, List.set_cons_succ, List.getElem_toArray, List.getElem_cons_succ, List.getElem_cons_zero]
      refine wpAnyH_take (i := 15) (v := undef) rfl (by kernel_rfl) (by kernel_rfl) (by kernel_rfl) (fun _ _ _ h => h) (Or.inr ⟨by rfl, rfl⟩) (by assumption) ?_
      try simp only [Act.put, List.setIfInBounds_toArray, List.set_cons_zero, List.set_cons_succ, List.getElem_toArray, List.getElem_cons_succ, List.getElem_cons_zero]
      refine wpAnyH_take (i := 16) (v := undef) rfl (by kernel_rfl) (by kernel_rfl) (by kernel_rfl) (fun _ _ _ h => h) (Or.inr ⟨by rfl, rfl⟩) (by assumption) ?_
      try simp only [Act.put, List.setIfInBounds_toArray, List.set_cons_zero, List.set_cons_succ, List.getElem_toArray, List.getElem_cons_succ, List.getElem_cons_zero]
      refine wpAnyH_take (i := 17) (v := undef) rfl (by kernel_rfl) (by kernel_rfl) (by kernel_rfl) (fun _ _ _ h => h) (Or.inr ⟨by rfl, rfl⟩) (by assumption) ?_
      try simp only [Act.put, List.setIfInBounds_toArray, List.set_cons_zero, List.set_cons_succ, List.getElem_toArray, List.getElem_cons_succ, List.getElem_cons_zero]
      refine wpAnyH_take (i := 18) (v := undef) rfl (by kernel_rfl) (by kernel_rfl) (by kernel_rfl) (fun _ _ _ h => h) (Or.inr ⟨by rfl, rfl⟩) (by assumption) ?_
      try simp only [Act.put, List.setIfInBounds_toArray, List.set_cons_zero, List.set_cons_succ, List.getElem_toArray, List.getElem_cons_succ, List.getElem_cons_zero]
      refine wpAnyH_take (i := 19) (v := ?_) rfl (by kernel_rfl) (by kernel_rfl) (by kernel_rfl) (fun _ _ _ h => h) (Or.inl ⟨by rfl, ?_⟩) (by assumption) ?_
      rotate_left 1
      · (intro w' hSw; (try dsimp only at hSw); go_simp; try with_reducible rfl)
      try simp only [Act.put, List.setIfInBounds_toArray, List.set_cons_zero, List.set_cons_succ, List.getElem_toArray, List.getElem_cons_succ, List.getElem_cons_zero]
      refine wpAnyH_take (i := 20) (v := ?_) rfl (by kernel_rfl) (by kernel_rfl) (by kernel_rfl) (fun _ _ _ h => h) (Or.inl ⟨by rfl, ?_⟩) (by assumption) ?_
      rotate_left 1
      · (intro w' hSw; (try dsimp only at hSw); go_simp; try with_reducible rfl)
      try simp only [Act.put, List.setIfInBounds_toArray, List.set_cons_zero, List.set_cons_succ, List.getElem_toArray, List.getElem_cons_succ, List.getElem_cons_zero]
      refine wpAnyH_done (by kernel_rfl) ?_ _
      go_wp2
      go_ret
      exact ⟨rfl, by go_grown⟩
    · cases h3 : timeB t
      · show Calls _ _ _ _ fun e w' => e = .returned (.bool false) ∧ Below w.heap.size w w'
        go_enter Try.func17, Try.ntmps17
        go_wp2
        refine wp_region_held_drew (S := fun w' => w'.cell? ⟨w.heap.size, 0, none⟩ = some (.int .i64 r) ∧ w'.cell? ⟨w.heap.size, 1, none⟩ = some (.int .i64 u) ∧ w'.cell? ⟨w.heap.size, 2, none⟩ = some (.int .i64 l) ∧ w'.cell? ⟨w.heap.size, 3, none⟩ = some (.int .i64 t)) (by kernel_rfl) (⟨by go_simp, by go_simp, by go_simp, by go_simp⟩) (fun hS => ?_)
        refine wpAnyH_take (i := 0) (v := ?_) rfl (by kernel_rfl) (by kernel_rfl) (by kernel_rfl) (fun _ _ _ h => h) (Or.inl ⟨by rfl, ?_⟩) (by assumption) ?_
        rotate_left 1
        · (intro w' hSw; (try dsimp only at hSw); go_simp; try with_reducible rfl)
        try simp only [Act.put, List.setIfInBounds_toArray, List.set_cons_zero, List.set_cons_succ, List.getElem_toArray, List.getElem_cons_succ, List.getElem_cons_zero]
        refine wpAnyH_take (i := 1) (v := ?_) rfl (by kernel_rfl) (by kernel_rfl) (by kernel_rfl) (fun _ _ _ h => h) (Or.inl ⟨by rfl, ?_⟩) (by assumption) ?_
        rotate_left 1
        · (intro w' hSw; (try dsimp only at hSw); go_simp; try with_reducible rfl)
        try simp only [Act.put, List.setIfInBounds_toArray, List.set_cons_zero, List.set_cons_succ, List.getElem_toArray, List.getElem_cons_succ, List.getElem_cons_zero]
        refine wpAnyH_ready (rs := [2]) (by kernel_rfl) (by simp) (AllReadyH.cons rfl (fun K hK => ?_) AllReadyH.nil)
        go_simp
        (refine (irate_any _ _).mono ?_; rintro e w2 ⟨rfl, rfl⟩; rw [h1])
        refine hK.out _ _ (by assumption) (fun _ => ?_)
        try simp only [Act.put, List.setIfInBounds_toArray, List.set_cons_zero, List.set_cons_succ, List.getElem_toArray, List.getElem_cons_succ, List.getElem_cons_zero]
        refine wpAnyH_take (i := 3) (v := ?_) rfl (by kernel_rfl) (by kernel_rfl) (by kernel_rfl) (fun _ _ _ h => h) (Or.inl ⟨by rfl, ?_⟩) (by assumption) ?_
        rotate_left 1
        · (intro w' hSw; (try dsimp only at hSw); go_simp; try with_reducible rfl)
        try simp only [Act.put, List.setIfInBounds_toArray, List.set_cons_zero, List.set_cons_succ, List.getElem_toArray, List.getElem_cons_succ, List.getElem_cons_zero]
        refine wpAnyH_take (i := 4) (v := ?_) rfl (by kernel_rfl) (by kernel_rfl) (by kernel_rfl) (fun _ _ _ h => h) (Or.inl ⟨by rfl, ?_⟩) (by assumption) ?_
        rotate_left 1
        · (intro w' hSw; (try dsimp only at hSw); go_simp; try with_reducible rfl)
        try simp only [Act.put, List.setIfInBounds_toArray, List.set_cons_zero, List.set_cons_succ, List.getElem_toArray, List.getElem_cons_succ, List.getElem_cons_zero]
        refine wpAnyH_take (i := 5) (v := ?_) rfl (by kernel_rfl) (by kernel_rfl) (by kernel_rfl) (fun _ _ _ h => h) (Or.inl ⟨by rfl, ?_⟩) (by assumption) ?_
        rotate_left 1
        · (intro w' hSw; (try dsimp only at hSw); go_simp; try with_reducible rfl)
        try simp only [Act.put, List.setIfInBounds_toArray, List.set_cons_zero, List.set_cons_succ, List.getElem_toArray, List.getElem_cons_succ, List.getElem_cons_zero]
        refine wpAnyH_ready (rs := [6]) (by kernel_rfl) (by simp) (AllReadyH.cons rfl (fun K hK => ?_) AllReadyH.nil)
        go_simp
        (refine (iwin_any _ _).mono ?_; rintro e w2 ⟨rfl, rfl⟩; rw [h2])
        refine hK.out _ _ (by assumption) (fun _ => ?_)
        try simp only [Act.put, List.setIfInBounds_toArray, List.set_cons_zero, List.set_cons_succ, List.getElem_toArray, List.getElem_cons_succ, List.getElem_cons_zero]
        refine wpAnyH_take (i := 7) (v := ?_) rfl (by kernel_rfl) (by kernel_rfl) (by kernel_rfl) (fun _ _ _ h => h) (Or.inl ⟨by rfl, ?_⟩) (by assumption) ?_
        rotate_left 1
        · (intro w' hSw; (try dsimp only at hSw); go_simp; try with_reducible rfl)
        try simp only [Act.put, List.setIfInBounds_toArray, List.set_cons_zero, List.set_cons_succ, List.getElem_toArray, List.getElem_cons_succ, List.getElem_cons_zero]
        refine wpAnyH_take (i := 8) (v := ?_) rfl (by kernel_rfl) (by kernel_rfl) (by kernel_rfl) (fun _ _ _ h => h) (Or.inl ⟨by rfl, ?_⟩) (by assumption) ?_
        rotate_left 1
        · (intro w' hSw; (try dsimp only at hSw); go_simp; try with_reducible rfl)
        try simp only [Act.put, List.setIfInBounds_toArray, List.set_cons_zero, List.set_cons_succ, List.getElem_toArray, List.getElem_cons_succ, List.getElem_cons_zero]
        refine wpAnyH_take (i := 9) (v := ?_) rfl (by kernel_rfl) (by kernel_rfl) (by kernel_rfl) (fun _ _ _ h => h) (Or.inl ⟨by rfl, ?_⟩) (by assumption) ?_
        rotate_left 1
        · (intro w' hSw; (try dsimp only at hSw); go_simp; try with_reducible rfl)
        try simp only [Act.put, List.setIfInBounds_toArray, List.set_cons_zero, List.set_cons_succ, List.getElem_toArray, List.getElem_cons_succ, List.getElem_cons_zero]
        refine wpAnyH_take (i := 10) (v := ?_) rfl (by kernel_rfl) (by kernel_rfl) (by kernel_rfl) (fun _ _ _ h => h) (Or.inl ⟨by rfl, ?_⟩) (by assumption) ?_
        rotate_left 1
        · (intro w' hSw; (try dsimp only at hSw); go_simp; try with_reducible rfl)
        try simp only [Act.put, List.setIfInBounds_toArray, List.set_cons_zero, List.set_cons_succ, List.getElem_toArray, List.getElem_cons_succ, List.getElem_cons_zero]
        refine wpAnyH_ready (rs := [11]) (by kernel_rfl) (by simp) (AllReadyH.cons rfl (fun K hK => ?_) AllReadyH.nil)
        go_simp
        (refine (itime_any _ _).mono ?_; rintro e w2 ⟨rfl, rfl⟩; rw [h3])
        refine hK.out _ _ (by assumption) (fun _ => ?_)
        try simp only [Act.put, List.setIfInBounds_toArray, List.set_cons_zero, List.set_cons_succ, List.getElem_toArray, List.getElem_cons_succ, List.getElem_cons_zero]
        refine wpAnyH_take (i := 12) (v := ?_) rfl (by kernel_rfl) (by kernel_rfl) (by kernel_rfl) (fun _ _ _ h => h) (Or.inl ⟨by rfl, ?_⟩) (by assumption) ?_
        rotate_left 1
        · (intro w' hSw; (try dsimp only at hSw); go_simp; try with_reducible rfl)
        try simp only [Act.put, List.setIfInBounds_toArray, List.set_cons_zero, List.set_cons_succ, List.getElem_toArray, List.getElem_cons_succ, List.getElem_cons_zero]
        refine wpAnyH_take (i := 13) (v := ?_) rfl (by kernel_rfl) (by kernel_rfl) (by kernel_rfl) (fun _ _ _ h => h) (Or.inl ⟨by rfl, ?_⟩) (by assumption) ?_
        rotate_left 1
        · (intro w' hSw; (try dsimp only at hSw); go_simp; try with_reducible rfl)
        try simp only [Act.put, List.setIfInBounds_toArray, List.set_cons_zero, List.set_cons_succ, List.getElem_toArray, List.getElem_cons_succ, List.getElem_cons_zero]
        refine wpAnyH_take (i := 14) (v := undef) rfl (by kernel_rfl) (by kernel_rfl) (by kernel_rfl) (fun _ _ _ h => h) (Or.inr ⟨by rfl, rfl⟩) (by assumption) ?_
        try simp only [Act.put, List.setIfInBounds_toArray, List.set_cons_zero, List.set_cons_succ, List.getElem_toArray, List.getElem_cons_succ, List.getElem_cons_zero]
        refine wpAnyH_take (i := 15) (v := undef) rfl (by kernel_rfl) (by kernel_rfl) (by kernel_rfl) (fun _ _ _ h => h) (Or.inr ⟨by rfl, rfl⟩) (by assumption) ?_
        try simp only [Act.put, List.setIfInBounds_toArray, List.set_cons_zero, List.set_cons_succ, List.getElem_toArray, List.getElem_cons_succ, List.getElem_cons_zero]
        refine wpAnyH_take (i := 16) (v := undef) rfl (by kernel_rfl) (by kernel_rfl) (by kernel_rfl) (fun _ _ _ h => h) (Or.inr ⟨by rfl, rfl⟩) (by assumption) ?_
        try simp only [Act.put, List.setIfInBounds_toArray, List.set_cons_zero, List.set_cons_succ, List.getElem_toArray, List.getElem_cons_succ, List.getElem_cons_zero]
        refine wpAnyH_take (i := 17) (v := undef) rfl (by kernel_rfl) (by kernel_rfl) (by kernel_rfl) (fun _ _ _ h => h) (Or.inr ⟨by rfl, rfl⟩) (by assumption) ?_
        try simp only [Act.put, List.setIfInBounds_toArray, List.set_cons_zero, List.set_cons_succ, List.getElem_toArray, List.getElem_cons_succ, List.getElem_cons_zero]
        refine wpAnyH_take (i := 18) (v := undef) rfl (by kernel_rfl) (by kernel_rfl) (by kernel_rfl) (fun _ _ _ h => h) (Or.inr ⟨by rfl, rfl⟩) (by assumption) ?_
        try simp only [Act.put, List.setIfInBounds_toArray, List.set_cons_zero, List.set_cons_succ, List.getElem_toArray, List.getElem_cons_succ, List.getElem_cons_zero]
        refine wpAnyH_take (i := 19) (v := ?_) rfl (by kernel_rfl) (by kernel_rfl) (by kernel_rfl) (fun _ _ _ h => h) (Or.inl ⟨by rfl, ?_⟩) (by assumption) ?_
        rotate_left 1
        · (intro w' hSw; (try dsimp only at hSw); go_simp; try with_reducible rfl)
        try simp only [Act.put, List.setIfInBounds_toArray, List.set_cons_zero, List.set_cons_succ, List.getElem_toArray, List.getElem_cons_succ, List.getElem_cons_zero]
        refine wpAnyH_take (i := 20) (v := ?_) rfl (by kernel_rfl) (by kernel_rfl) (by kernel_rfl) (fun _ _ _ h => h) (Or.inl ⟨by rfl, ?_⟩) (by assumption) ?_
        rotate_left 1
        · (intro w' hSw; (try dsimp only at hSw); go_simp; try with_reducible rfl)
        try simp only [Act.put, List.setIfInBounds_toArray, List.set_cons_zero, List.set_cons_succ, List.getElem_toArray, List.getElem_cons_succ, List.getElem_cons_zero]
        refine wpAnyH_done (by kernel_rfl) ?_ _
        go_wp2
        go_ret
        exact ⟨rfl, by go_grown⟩
      · show Calls _ _ _ _ fun e w' => e = .returned (.bool (lvlB u l)) ∧ Below w.heap.size w w'
        go_enter Try.func17, Try.ntmps17
        go_wp2
        refine wp_region_held_drew (S := fun w' => w'.cell? ⟨w.heap.size, 0, none⟩ = some (.int .i64 r) ∧ w'.cell? ⟨w.heap.size, 1, none⟩ = some (.int .i64 u) ∧ w'.cell? ⟨w.heap.size, 2, none⟩ = some (.int .i64 l) ∧ w'.cell? ⟨w.heap.size, 3, none⟩ = some (.int .i64 t)) (by kernel_rfl) (⟨by go_simp, by go_simp, by go_simp, by go_simp⟩) (fun hS => ?_)
        refine wpAnyH_take (i := 0) (v := ?_) rfl (by kernel_rfl) (by kernel_rfl) (by kernel_rfl) (fun _ _ _ h => h) (Or.inl ⟨by rfl, ?_⟩) (by assumption) ?_
        rotate_left 1
        · (intro w' hSw; (try dsimp only at hSw); go_simp; try with_reducible rfl)
        try simp only [Act.put, List.setIfInBounds_toArray, List.set_cons_zero, List.set_cons_succ, List.getElem_toArray, List.getElem_cons_succ, List.getElem_cons_zero]
        refine wpAnyH_take (i := 1) (v := ?_) rfl (by kernel_rfl) (by kernel_rfl) (by kernel_rfl) (fun _ _ _ h => h) (Or.inl ⟨by rfl, ?_⟩) (by assumption) ?_
        rotate_left 1
        · (intro w' hSw; (try dsimp only at hSw); go_simp; try with_reducible rfl)
        try simp only [Act.put, List.setIfInBounds_toArray, List.set_cons_zero, List.set_cons_succ, List.getElem_toArray, List.getElem_cons_succ, List.getElem_cons_zero]
        refine wpAnyH_ready (rs := [2]) (by kernel_rfl) (by simp) (AllReadyH.cons rfl (fun K hK => ?_) AllReadyH.nil)
        go_simp
        (refine (irate_any _ _).mono ?_; rintro e w2 ⟨rfl, rfl⟩; rw [h1])
        refine hK.out _ _ (by assumption) (fun _ => ?_)
        try simp only [Act.put, List.setIfInBounds_toArray, List.set_cons_zero, List.set_cons_succ, List.getElem_toArray, List.getElem_cons_succ, List.getElem_cons_zero]
        refine wpAnyH_take (i := 3) (v := ?_) rfl (by kernel_rfl) (by kernel_rfl) (by kernel_rfl) (fun _ _ _ h => h) (Or.inl ⟨by rfl, ?_⟩) (by assumption) ?_
        rotate_left 1
        · (intro w' hSw; (try dsimp only at hSw); go_simp; try with_reducible rfl)
        try simp only [Act.put, List.setIfInBounds_toArray, List.set_cons_zero, List.set_cons_succ, List.getElem_toArray, List.getElem_cons_succ, List.getElem_cons_zero]
        refine wpAnyH_take (i := 4) (v := ?_) rfl (by kernel_rfl) (by kernel_rfl) (by kernel_rfl) (fun _ _ _ h => h) (Or.inl ⟨by rfl, ?_⟩) (by assumption) ?_
        rotate_left 1
        · (intro w' hSw; (try dsimp only at hSw); go_simp; try with_reducible rfl)
        try simp only [Act.put, List.setIfInBounds_toArray, List.set_cons_zero, List.set_cons_succ, List.getElem_toArray, List.getElem_cons_succ, List.getElem_cons_zero]
        refine wpAnyH_take (i := 5) (v := ?_) rfl (by kernel_rfl) (by kernel_rfl) (by kernel_rfl) (fun _ _ _ h => h) (Or.inl ⟨by rfl, ?_⟩) (by assumption) ?_
        rotate_left 1
        · (intro w' hSw; (try dsimp only at hSw); go_simp; try with_reducible rfl)
        try simp only [Act.put, List.setIfInBounds_toArray, List.set_cons_zero, List.set_cons_succ, List.getElem_toArray, List.getElem_cons_succ, List.getElem_cons_zero]
        refine wpAnyH_ready (rs := [6]) (by kernel_rfl) (by simp) (AllReadyH.cons rfl (fun K hK => ?_) AllReadyH.nil)
        go_simp
        (refine (iwin_any _ _).mono ?_; rintro e w2 ⟨rfl, rfl⟩; rw [h2])
        refine hK.out _ _ (by assumption) (fun _ => ?_)
        try simp only [Act.put, List.setIfInBounds_toArray, List.set_cons_zero, List.set_cons_succ, List.getElem_toArray, List.getElem_cons_succ, List.getElem_cons_zero]
        refine wpAnyH_take (i := 7) (v := ?_) rfl (by kernel_rfl) (by kernel_rfl) (by kernel_rfl) (fun _ _ _ h => h) (Or.inl ⟨by rfl, ?_⟩) (by assumption) ?_
        rotate_left 1
        · (intro w' hSw; (try dsimp only at hSw); go_simp; try with_reducible rfl)
        try simp only [Act.put, List.setIfInBounds_toArray, List.set_cons_zero, List.set_cons_succ, List.getElem_toArray, List.getElem_cons_succ, List.getElem_cons_zero]
        refine wpAnyH_take (i := 8) (v := ?_) rfl (by kernel_rfl) (by kernel_rfl) (by kernel_rfl) (fun _ _ _ h => h) (Or.inl ⟨by rfl, ?_⟩) (by assumption) ?_
        rotate_left 1
        · (intro w' hSw; (try dsimp only at hSw); go_simp; try with_reducible rfl)
        try simp only [Act.put, List.setIfInBounds_toArray, List.set_cons_zero, List.set_cons_succ, List.getElem_toArray, List.getElem_cons_succ, List.getElem_cons_zero]
        refine wpAnyH_take (i := 9) (v := ?_) rfl (by kernel_rfl) (by kernel_rfl) (by kernel_rfl) (fun _ _ _ h => h) (Or.inl ⟨by rfl, ?_⟩) (by assumption) ?_
        rotate_left 1
        · (intro w' hSw; (try dsimp only at hSw); go_simp; try with_reducible rfl)
        try simp only [Act.put, List.setIfInBounds_toArray, List.set_cons_zero, List.set_cons_succ, List.getElem_toArray, List.getElem_cons_succ, List.getElem_cons_zero]
        refine wpAnyH_take (i := 10) (v := ?_) rfl (by kernel_rfl) (by kernel_rfl) (by kernel_rfl) (fun _ _ _ h => h) (Or.inl ⟨by rfl, ?_⟩) (by assumption) ?_
        rotate_left 1
        · (intro w' hSw; (try dsimp only at hSw); go_simp; try with_reducible rfl)
        try simp only [Act.put, List.setIfInBounds_toArray, List.set_cons_zero, List.set_cons_succ, List.getElem_toArray, List.getElem_cons_succ, List.getElem_cons_zero]
        refine wpAnyH_ready (rs := [11]) (by kernel_rfl) (by simp) (AllReadyH.cons rfl (fun K hK => ?_) AllReadyH.nil)
        go_simp
        (refine (itime_any _ _).mono ?_; rintro e w2 ⟨rfl, rfl⟩; rw [h3])
        refine hK.out _ _ (by assumption) (fun _ => ?_)
        try simp only [Act.put, List.setIfInBounds_toArray, List.set_cons_zero, List.set_cons_succ, List.getElem_toArray, List.getElem_cons_succ, List.getElem_cons_zero]
        refine wpAnyH_take (i := 12) (v := ?_) rfl (by kernel_rfl) (by kernel_rfl) (by kernel_rfl) (fun _ _ _ h => h) (Or.inl ⟨by rfl, ?_⟩) (by assumption) ?_
        rotate_left 1
        · (intro w' hSw; (try dsimp only at hSw); go_simp; try with_reducible rfl)
        try simp only [Act.put, List.setIfInBounds_toArray, List.set_cons_zero, List.set_cons_succ, List.getElem_toArray, List.getElem_cons_succ, List.getElem_cons_zero]
        refine wpAnyH_take (i := 13) (v := ?_) rfl (by kernel_rfl) (by kernel_rfl) (by kernel_rfl) (fun _ _ _ h => h) (Or.inl ⟨by rfl, ?_⟩) (by assumption) ?_
        rotate_left 1
        · (intro w' hSw; (try dsimp only at hSw); go_simp; try with_reducible rfl)
        try simp only [Act.put, List.setIfInBounds_toArray, List.set_cons_zero, List.set_cons_succ, List.getElem_toArray, List.getElem_cons_succ, List.getElem_cons_zero]
        refine wpAnyH_take (i := 14) (v := ?_) rfl (by kernel_rfl) (by kernel_rfl) (by kernel_rfl) (fun _ _ _ h => h) (Or.inl ⟨by rfl, ?_⟩) (by assumption) ?_
        rotate_left 1
        · (intro w' hSw; (try dsimp only at hSw); go_simp; try with_reducible rfl)
        try simp only [Act.put, List.setIfInBounds_toArray, List.set_cons_zero, List.set_cons_succ, List.getElem_toArray, List.getElem_cons_succ, List.getElem_cons_zero]
        refine wpAnyH_take (i := 15) (v := ?_) rfl (by kernel_rfl) (by kernel_rfl) (by kernel_rfl) (fun _ _ _ h => h) (Or.inl ⟨by rfl, ?_⟩) (by assumption) ?_
        rotate_left 1
        · (intro w' hSw; (try dsimp only at hSw); go_simp; try with_reducible rfl)
        try simp only [Act.put, List.setIfInBounds_toArray, List.set_cons_zero, List.set_cons_succ, List.getElem_toArray, List.getElem_cons_succ, List.getElem_cons_zero]
        refine wpAnyH_take (i := 16) (v := ?_) rfl (by kernel_rfl) (by kernel_rfl) (by kernel_rfl) (fun _ _ _ h => h) (Or.inl ⟨by rfl, ?_⟩) (by assumption) ?_
        rotate_left 1
        · (intro w' hSw; (try dsimp only at hSw); go_simp; try with_reducible rfl)
        try simp only [Act.put, List.setIfInBounds_toArray, List.set_cons_zero, List.set_cons_succ, List.getElem_toArray, List.getElem_cons_succ, List.getElem_cons_zero]
        refine wpAnyH_ready (rs := [17]) (by kernel_rfl) (by simp) (AllReadyH.cons rfl (fun K hK => ?_) AllReadyH.nil)
        go_simp
        (refine (ifull_any r u l t _ (win_num h2)).mono ?_; rintro e w3 ⟨rfl, hb3⟩; have hS := four_next hS hb3 (by simp); simp only [])
        refine hK.out _ _ (by assumption) (fun _ => ?_)
        try simp only [Act.put, List.setIfInBounds_toArray, List.set_cons_zero, List.set_cons_succ, List.getElem_toArray, List.getElem_cons_succ, List.getElem_cons_zero]
        refine wpAnyH_ready (rs := [18]) (by kernel_rfl) (by simp) (AllReadyH.cons rfl (fun K hK => ?_) AllReadyH.nil)
        go_simp
        (refine (iwithin_any _ _ _ _).mono ?_; rintro e w4 ⟨rfl, rfl⟩; rw [show (decide (0 ≤ l) && decide (l ≤ 1000000000 * u)) = lvlB u l from rfl])
        refine hK.out _ _ (by assumption) (fun _ => ?_)
        try simp only [Act.put, List.setIfInBounds_toArray, List.set_cons_zero, List.set_cons_succ, List.getElem_toArray, List.getElem_cons_succ, List.getElem_cons_zero]
        refine wpAnyH_take (i := 19) (v := ?_) rfl (by kernel_rfl) (by kernel_rfl) (by kernel_rfl) (fun _ _ _ h => h) (Or.inl ⟨by rfl, ?_⟩) (by assumption) ?_
        rotate_left 1
        · (intro w' hSw; (try dsimp only at hSw); go_simp; try with_reducible rfl)
        try simp only [Act.put, List.setIfInBounds_toArray, List.set_cons_zero, List.set_cons_succ, List.getElem_toArray, List.getElem_cons_succ, List.getElem_cons_zero]
        refine wpAnyH_take (i := 20) (v := ?_) rfl (by kernel_rfl) (by kernel_rfl) (by kernel_rfl) (fun _ _ _ h => h) (Or.inl ⟨by rfl, ?_⟩) (by assumption) ?_
        rotate_left 1
        · (intro w' hSw; (try dsimp only at hSw); go_simp; try with_reducible rfl)
        try simp only [Act.put, List.setIfInBounds_toArray, List.set_cons_zero, List.set_cons_succ, List.getElem_toArray, List.getElem_cons_succ, List.getElem_cons_zero]
        refine wpAnyH_done (by kernel_rfl) ?_ _
        go_wp2
        go_ret
        exact ⟨rfl, below_two (by go_grown) hb3⟩
end Go.Proofs.Ytmophpbfaonfmac
namespace Go.Proofs.Ytmophpbfaonfmac
open Go.ChangeShapes Go.WideShapes Go.ChangeAt Go.RowKit
set_option maxRecDepth 100000
set_option linter.unusedVariables false
set_option linter.unusedSimpArgs false

/-- A bucket in a variable, and the answer's place. -/
structure Pair4 (w wd : World) (a c : Nat) (r u l t : Int) : Prop where
  c0 : wd.cell? ⟨a, 0, none⟩ = some (.int .i64 r)
  c1 : wd.cell? ⟨a, 1, none⟩ = some (.int .i64 u)
  c2 : wd.cell? ⟨a, 2, none⟩ = some (.int .i64 l)
  c3 : wd.cell? ⟨a, 3, none⟩ = some (.int .i64 t)
  d0 : wd.cell? ⟨c, 0, none⟩ = some (.int .i64 0)
  d1 : wd.cell? ⟨c, 1, none⟩ = some (.int .i64 0)
  d2 : wd.cell? ⟨c, 2, none⟩ = some (.int .i64 0)
  d3 : wd.cell? ⟨c, 3, none⟩ = some (.int .i64 0)
  fa : ∀ o : Nat, wd.frozen? ⟨a, o, none⟩ = false
  fb : ∀ o : Nat, wd.frozen? ⟨c, o, none⟩ = false
  hb : Below w.heap.size w wd
  y0 : a < wd.heap.size
  y1 : c < wd.heap.size
  ya : w.heap.size ≤ a
  ne : a ≠ c
theorem Pair4.next {w wd w' : World} {a c : Nat} {r u l t : Int} (h : Pair4 w wd a c r u l t) (k : Below wd.heap.size wd w') : Pair4 w w' a c r u l t :=
  have e := below_cells4 k
  have f := below_frozens4 k
  ⟨(e _ _ h.y0).trans h.c0, (e _ _ h.y0).trans h.c1, (e _ _ h.y0).trans h.c2, (e _ _ h.y0).trans h.c3, (e _ _ h.y1).trans h.d0, (e _ _ h.y1).trans h.d1, (e _ _ h.y1).trans h.d2, (e _ _ h.y1).trans h.d3,
    fun o => (f _ _ h.y0).trans (h.fa o), fun o => (f _ _ h.y1).trans (h.fb o), below_two h.hb k, Nat.lt_of_lt_of_le h.y0 k.size, Nat.lt_of_lt_of_le h.y1 k.size, h.ya, h.ne⟩
theorem far4 {w : World} {b c i j : Nat} {v : Value} (h : b ≠ c) : (w.setCell ⟨b, i, none⟩ v).cell? ⟨c, j, none⟩ = w.cell? ⟨c, j, none⟩ := by
  apply World.cell?_setCell_other
  intro e
  injection e with e _ _
  exact h e
theorem Pair4.set2 {w wd : World} {a c : Nat} {r u l t : Int} (h : Pair4 w wd a c r u l t) (x : Int) : Pair4 w (wd.setCell ⟨a, 2, none⟩ (.int .i64 x)) a c r u x t :=
  ⟨(set_other4 (by decide)).trans h.c0, (set_other4 (by decide)).trans h.c1, set_same4 _ h.c2, (set_other4 (by decide)).trans h.c3, (far4 h.ne).trans h.d0, (far4 h.ne).trans h.d1, (far4 h.ne).trans h.d2, (far4 h.ne).trans h.d3,
    fun o => by simp [h.fa], fun o => by simp [h.fb], h.hb.setCell (by exact h.ya) _, by simp; exact h.y0, by simp; exact h.y1, h.ya, h.ne⟩
theorem Pair4.least {w wd : World} {a c : Nat} {r u l t x y : Int} (h : Pair4 w wd a c r u l t) : Pair4 w (wd.setCell ⟨a, 2, none⟩ (.int .i64 (if y < x then y else x))) a c r u (min x y) t := by
  have e : (if y < x then y else x) = min x y := by
    by_cases k : y < x
    · rw [if_pos k, Int.min_eq_right (Int.le_of_lt k)]
    · rw [if_neg k, Int.min_eq_left (by omega)]
  rw [e]
  exact h.set2 _
theorem pair_new {w : World} {r u l t : Int} : Pair4 w ((w.alloc (.cells #[.int .i64 r, .int .i64 u, .int .i64 l, .int .i64 t] 25)).alloc (.cells #[.int .i64 0, .int .i64 0, .int .i64 0, .int .i64 0] 25)) w.heap.size (w.heap.size + 1) r u l t :=
  ⟨by go_simp, by go_simp, by go_simp, by go_simp, by go_simp, by go_simp, by go_simp, by go_simp, fun o => by go_simp, fun o => by go_simp, by go_grown, by simp; omega, by simp, Nat.le_refl _, by omega⟩
def bringX (f : Bool) (P u : Int) : Int := if f = true then P else 1000000000 * u
set_option maxHeartbeats 4000000 in
theorem ifilled_late {r u l t now : Int} (w : World) (f : Bool) (P : Int) (h : bokB r u l t = true) (hn : timeB now = true) (hlt : t < now) (M1 : Hid (mdOk r (now - t) 1 = f)) (M2 : Hid (mdQ r (now - t) 1 = P)) (X : Int) (hX : Hid (bringX f P u = X)) (hX0 : 0 ≤ X) (hX1 : X ≤ 9223372036854775807) :
    Calls Try.prog 108 #[.agg #[.int .i64 r, .int .i64 u, .int .i64 l, .int .i64 t], .int .i64 now] w fun e w' => e = .returned (.agg #[.int .i64 r, .int .i64 u, .int .i64 (min (satAdd l X) (1000000000 * u)), .int .i64 now]) ∧ Below w.heap.size w w' := by
  obtain ⟨nr, nu, nl, nt⟩ := bok_num h
  have nn := tim_num hn
  go_enter Try.func108, Try.ntmps108
  go_upto_if 23 with (first
    | (go_at_call 132; refine (implMulDiv_any _ _ _ _ (by omega) (by omega) (by omega)).mono ?_; rintro e w2 ⟨rfl, hb2⟩; rw [M1.out, M2.out]; have D : Hid (Pair4 w w2 w.heap.size (w.heap.size + 1) r u l t) := pair_new.next hb2; obtain ⟨c0, c1, c2, c3, d0, d1, d2, d3, fa, fb, hbw, y0, y1, ya, ne⟩ := D.out; clear hb2))
  go_cut [5] from 22 (fun s wd => s = .int .i64 X ∧ Pair4 w wd w.heap.size (w.heap.size + 1) r u l t)
  case first =>
    cases f
    · rw [Bool.not_false]
      go_wp2_with (first
        | (go_at_call 62; refine (ifull_any _ _ _ _ _ nu).mono ?_; rintro e w5 ⟨rfl, hb5⟩; have D5 : Hid (Pair4 w w5 w.heap.size (w.heap.size + 1) r u l t) := D.out.next hb5))
      go_meet
      exact ⟨by rw [← hX.out]; rfl, D5.out⟩
    · rw [Bool.not_true]
      go_wp2
      go_meet
      exact ⟨by rw [← hX.out]; rfl, D.out⟩
  case rest =>
  clear D c0 c1 c2 c3 d0 d1 d2 d3 fa fb hbw y0 y1 ya ne
  obtain ⟨rfl, d⟩ := hcut
  have D : Hid (Pair4 w wc w.heap.size (w.heap.size + 1) r u l t) := d
  obtain ⟨c0, c1, c2, c3, d0, d1, d2, d3, fa, fb, hbw, y0, y1, ya, ne⟩ := d
  go_upto_region 6 with fail
  go_cut [] from 22 (fun wd => Pair4 w wd w.heap.size (w.heap.size + 1) r u (min (satAdd l X) (1000000000 * u)) t)
  case first =>
    go_region_with
      (first
        | (go_at_call 133; refine (implAdd_any _ _ _ (by omega) (by omega) (by omega) (by omega)).mono ?_; rintro e w3 ⟨rfl, rfl⟩)
        | (go_at_call 62; refine (ifull_any _ _ _ _ _ nu).mono ?_; rintro e w4 ⟨rfl, hb4⟩; have D4 : Hid (Pair4 w w4 w.heap.size (w.heap.size + 1) r u l t) := D.out.next (below_two (w := wc) (by go_grown) hb4); have c0 := D4.out.c0; have c1 := D4.out.c1; have c2 := D4.out.c2; have c3 := D4.out.c3; have fa := D4.out.fa))
    all_goals (repeat go_step)
    all_goals go_meet
    all_goals exact D4.out.least
  case rest =>
  clear D c0 c1 c2 c3 d0 d1 d2 d3 fa fb hbw y0 y1 ya ne
  obtain ⟨c0, c1, c2, c3, d0, d1, d2, d3, fa, fb, hbw, y0, y1, ya, ne⟩ := hcut
  go_wp2
  refine bodyPost_ret (results_one rfl _ _ _ [.int .i64 r, .int .i64 u, .int .i64 (min (satAdd l X) (1000000000 * u)), .int .i64 now] rfl (cells_set4 (u0 := .int .i64 0) (u1 := .int .i64 0) (u2 := .int .i64 0) (u3 := .int .i64 0) _ _ _ _ ?_ ?_ ?_ ?_) Try.underlying25 rfl (by kernel_rfl)) rfl ?_
  · go_simp
  · go_simp
  · go_simp
  · go_simp
  exact ⟨rfl, by go_grown⟩
set_option maxHeartbeats 1000000 in
theorem ifilled_any {r u l t now : Int} (w : World) (h : bokB r u l t = true) (hn : timeB now = true) :
    Calls Try.prog 108 #[.agg #[.int .i64 r, .int .i64 u, .int .i64 l, .int .i64 t], .int .i64 now] w fun e w' => e = .returned (.agg #[.int .i64 r, .int .i64 u, .int .i64 (fillL r u l t now), .int .i64 (fillT t now)]) ∧ Below w.heap.size w w' := by
  obtain ⟨nr, nu, nl, nt⟩ := bok_num h
  have nn := tim_num hn
  by_cases hle : now ≤ t
  · have e1 : fillL r u l t now = l := if_pos hle
    have e2 : fillT t now = t := if_pos hle
    rw [e1, e2]
    go_enter Try.func108, Try.ntmps108
    go_wp2
    refine bodyPost_ret (results_one rfl _ _ _ [.int .i64 r, .int .i64 u, .int .i64 l, .int .i64 t] rfl (cells_four (by go_simp) (by go_simp) (by go_simp) (by go_simp)) Try.underlying25 rfl (by kernel_rfl)) rfl ?_
    exact ⟨rfl, by go_grown⟩
  · have e1 : fillL r u l t now = min (1000000000 * u) (l + r * (now - t)) := if_neg hle
    have e2 : fillT t now = now := if_neg hle
    rw [e1, e2]
    obtain ⟨m1, m2⟩ := md_one nr.1 (show 0 ≤ now - t by omega)
    have hP0 : 0 ≤ r * (now - t) := Int.mul_nonneg nr.1 (by omega)
    by_cases hP : r * (now - t) ≤ 9223372036854775807
    · have m1' : mdOk r (now - t) 1 = true := m1.trans (decide_eq_true hP)
      rw [← fill_yes nu nl hP0 hP, Int.min_comm]
      exact ifilled_late w true _ h hn (by omega) m1' (m2 m1') _ rfl hP0 hP
    · have m1' : mdOk r (now - t) 1 = false := m1.trans (decide_eq_false hP)
      rw [← fill_no nu nl (by omega), Int.min_comm]
      exact ifilled_late w false _ h hn (by omega) m1' rfl _ rfl (by show 0 ≤ 1000000000 * u; omega) (by show 1000000000 * u ≤ _; omega)
end Go.Proofs.Ytmophpbfaonfmac
namespace Go.Proofs.Ytmophpbfaonfmac
open Go.ChangeShapes Go.WideShapes Go.ChangeAt Go.RowKit
set_option maxRecDepth 100000
set_option linter.unusedVariables false
set_option linter.unusedSimpArgs false

theorem bok_empty (r u t : Int) : bokB r u 0 t = fullOk r u t := by
  unfold bokB fullOk
  cases h : winB u
  · cases rateB r <;> rfl
  · have n := win_num h
    have e : lvlB u 0 = true := by unfold lvlB; rw [decide_eq_true (by omega), decide_eq_true (by omega)]; rfl
    rw [e]
    cases rateB r <;> cases timeB t <;> rfl
set_option maxHeartbeats 2000000 in
theorem fillOf_any (r u l t : Int) (w : World) : Calls Try.prog 53 #[.agg #[.int .i64 r, .int .i64 u, .int .i64 l, .int .i64 t]] w fun e w' => e = .returned (.tuple #[.func (.func 108) #[.agg #[.int .i64 r, .int .i64 u, .int .i64 l, .int .i64 t]] #[], .bool (bokB r u l t)]) ∧ Below w.heap.size w w' := by
  have hmf : ∀ (fn : Fn) (first cap : Array Value) (w : World), (Instr.makeFunc fn first cap).run Try.prog w = .ok (.func fn first cap) w := fun _ _ _ _ => rfl
  go_enter Try.func53, Try.ntmps53
  go_wp2
  go_region_held3 (fun w' => w'.cell? ⟨w.heap.size, 0, none⟩ = some (.int .i64 r) ∧ w'.cell? ⟨w.heap.size, 1, none⟩ = some (.int .i64 u) ∧ w'.cell? ⟨w.heap.size, 2, none⟩ = some (.int .i64 l) ∧ w'.cell? ⟨w.heap.size, 3, none⟩ = some (.int .i64 t)) (go_keep)
    (first
      | (go_at_call 17; refine (implBucketOk_any _ _ _ _ _).mono ?_; rintro e w2 ⟨rfl, hb2⟩; have kc := below_cells4 hb2; have c0 : w2.cell? ⟨w.heap.size, 0, none⟩ = some (.int .i64 r) := (kc _ _ (by simp)).trans (by go_simp); have c1 : w2.cell? ⟨w.heap.size, 1, none⟩ = some (.int .i64 u) := (kc _ _ (by simp)).trans (by go_simp); have c2 : w2.cell? ⟨w.heap.size, 2, none⟩ = some (.int .i64 l) := (kc _ _ (by simp)).trans (by go_simp); have c3 : w2.cell? ⟨w.heap.size, 3, none⟩ = some (.int .i64 t) := (kc _ _ (by simp)).trans (by go_simp); have hbw := below_two (w := w) (by go_grown) hb2))
  all_goals go_wp2
  all_goals go_ret2
  all_goals exact ⟨rfl, by go_grown⟩
set_option maxHeartbeats 2000000 in
theorem implFill_any (r u l t now : Int) (w : World) : Calls Try.prog 11 #[.agg #[.int .i64 r, .int .i64 u, .int .i64 l, .int .i64 t], .int .i64 now] w fun e w' => e = .returned (bkV (fillOf r u l t now)) ∧ Below w.heap.size w w' := by
  unfold fillOf
  cases h1 : bokB r u l t
  · show Calls _ _ _ _ fun e w' => e = .returned (.agg #[.int .i64 0, .int .i64 0, .int .i64 0, .int .i64 0]) ∧ Below w.heap.size w w'
    go_enter Try.func11, Try.ntmps11
    go_wp2_with (first
      | (go_at_call 53; refine (fillOf_any _ _ _ _ _).mono ?_; rintro e w2 ⟨rfl, hb2⟩; rw [h1]; have kc := below_cells4 hb2; have kf := below_frozens4 hb2; have zb := hb2.size; have hbw := start2 hb2; have y1 := size2b hb2; have y0 := Nat.lt_of_succ_lt y1))
    refine bodyPost_ret (results_one rfl _ _ _ [.int .i64 0, .int .i64 0, .int .i64 0, .int .i64 0] rfl (cells_set4 (u0 := .int .i64 0) (u1 := .int .i64 0) (u2 := .int .i64 0) (u3 := .int .i64 0) _ _ _ _ ?_ ?_ ?_ ?_) Try.underlying25 rfl (by kernel_rfl)) rfl ?_
    · go_simp
    · go_simp
    · go_simp
    · go_simp
    exact ⟨rfl, by go_grown⟩
  · cases h2 : timeB now
    · show Calls _ _ _ _ fun e w' => e = .returned (.agg #[.int .i64 0, .int .i64 0, .int .i64 0, .int .i64 0]) ∧ Below w.heap.size w w'
      go_enter Try.func11, Try.ntmps11
      go_wp2_with (first
        | (go_at_call 53; refine (fillOf_any _ _ _ _ _).mono ?_; rintro e w2 ⟨rfl, hb2⟩; rw [h1]; have kc := below_cells4 hb2; have kf := below_frozens4 hb2; have zb := hb2.size; have hbw := start2 hb2; have y1 := size2b hb2; have y0 := Nat.lt_of_succ_lt y1)
        | (go_at_call 54; refine (itime_any _ _).mono ?_; rintro e w2 ⟨rfl, rfl⟩; rw [h2]))
      refine bodyPost_ret (results_one rfl _ _ _ [.int .i64 0, .int .i64 0, .int .i64 0, .int .i64 0] rfl (cells_set4 (u0 := .int .i64 0) (u1 := .int .i64 0) (u2 := .int .i64 0) (u3 := .int .i64 0) _ _ _ _ ?_ ?_ ?_ ?_) Try.underlying25 rfl (by kernel_rfl)) rfl ?_
      · go_simp
      · go_simp
      · go_simp
      · go_simp
      exact ⟨rfl, by go_grown⟩
    · show Calls _ _ _ _ fun e w' => e = .returned (.agg #[.int .i64 r, .int .i64 u, .int .i64 (fillL r u l t now), .int .i64 (fillT t now)]) ∧ Below w.heap.size w w'
      go_enter Try.func11, Try.ntmps11
      go_wp2_with (first
        | (go_at_call 53; refine (fillOf_any _ _ _ _ _).mono ?_; rintro e w2 ⟨rfl, hb2⟩; rw [h1]; have kc := below_cells4 hb2; have kf := below_frozens4 hb2; have zb := hb2.size; have hbw := start2 hb2; have y1 := size2b hb2; have y0 := Nat.lt_of_succ_lt y1)
        | (go_at_call 54; refine (itime_any _ _).mono ?_; rintro e w2 ⟨rfl, rfl⟩; rw [h2])
        | (go_at_call 108; refine (ifilled_any _ h1 h2).mono ?_; rintro e w3 ⟨rfl, hb3⟩; have kc := fun b o h => (below_cells4 hb3 b o (Nat.lt_of_lt_of_le h zb)).trans (kc b o h); have kf := fun b o h => (below_frozens4 hb3 b o (Nat.lt_of_lt_of_le h zb)).trans (kf b o h); have hbw := below_two hbw hb3; have y1 := Nat.lt_of_lt_of_le y1 hb3.size; have y0 := Nat.lt_of_succ_lt y1))
      refine bodyPost_ret (results_one rfl _ _ _ [.int .i64 r, .int .i64 u, .int .i64 (fillL r u l t now), .int .i64 (fillT t now)] rfl (cells_set4 (u0 := .int .i64 0) (u1 := .int .i64 0) (u2 := .int .i64 0) (u3 := .int .i64 0) _ _ _ _ ?_ ?_ ?_ ?_) Try.underlying25 rfl (by kernel_rfl)) rfl ?_
      · go_simp
      · go_simp
      · go_simp
      · go_simp
      exact ⟨rfl, by go_grown⟩
theorem pair_var {w w3 : World} {c : Nat} {r u l t : Int} (d0 : w3.cell? ⟨c, 0, none⟩ = some (.int .i64 0)) (d1 : w3.cell? ⟨c, 1, none⟩ = some (.int .i64 0)) (d2 : w3.cell? ⟨c, 2, none⟩ = some (.int .i64 0)) (d3 : w3.cell? ⟨c, 3, none⟩ = some (.int .i64 0))
    (fb : ∀ o : Nat, w3.frozen? ⟨c, o, none⟩ = false) (hb : Below w.heap.size w w3) (yc : c < w3.heap.size) : Pair4 w (w3.alloc (.cells #[.int .i64 r, .int .i64 u, .int .i64 l, .int .i64 t] 25)) w3.heap.size c r u l t :=
  have hr : Below w3.heap.size w3 (w3.alloc (.cells #[.int .i64 r, .int .i64 u, .int .i64 l, .int .i64 t] 25)) := by go_grown
  have e := below_cells4 hr
  have f := below_frozens4 hr
  ⟨by go_simp, by go_simp, by go_simp, by go_simp, (e _ _ yc).trans d0, (e _ _ yc).trans d1, (e _ _ yc).trans d2, (e _ _ yc).trans d3, fun o => by go_simp, fun o => (f _ _ yc).trans (fb o), below_two hb hr, by simp, by simp; omega, hb.size, by omega⟩
set_option maxHeartbeats 4000000 in
theorem implReset_any (r u l t r' u' now : Int) (w : World) : Calls Try.prog 15 #[.agg #[.int .i64 r, .int .i64 u, .int .i64 l, .int .i64 t], .int .i64 r', .int .i64 u', .int .i64 now] w fun e w' => e = .returned (bkV (resetOf r u l t r' u' now)) ∧ Below w.heap.size w w' := by
  cases h1 : bokB r u l t
  · rw [reset_no (by unfold resetOk; rw [h1]; rfl)]
    go_enter Try.func15, Try.ntmps15
    go_wp2_with (first
      | (go_at_call 53; refine (fillOf_any _ _ _ _ _).mono ?_; rintro e w2 ⟨rfl, hb2⟩; rw [h1]; have kc := below_cells4 hb2; have kf := below_frozens4 hb2; have zb := hb2.size; have hbw := start2 hb2; have y1 := size2b hb2; have y0 := Nat.lt_of_succ_lt y1))
    refine bodyPost_ret (results_one rfl _ _ _ [.int .i64 0, .int .i64 0, .int .i64 0, .int .i64 0] rfl (cells_set4 (u0 := .int .i64 0) (u1 := .int .i64 0) (u2 := .int .i64 0) (u3 := .int .i64 0) _ _ _ _ ?_ ?_ ?_ ?_) Try.underlying25 rfl (by kernel_rfl)) rfl ?_
    · go_simp
    · go_simp
    · go_simp
    · go_simp
    exact ⟨rfl, by go_grown⟩
  · cases h2 : timeB now
    · rw [reset_no (by unfold resetOk; rw [h2, Bool.and_false])]
      go_enter Try.func15, Try.ntmps15
      go_wp2_with (first
        | (go_at_call 53; refine (fillOf_any _ _ _ _ _).mono ?_; rintro e w2 ⟨rfl, hb2⟩; rw [h1]; have kc := below_cells4 hb2; have kf := below_frozens4 hb2; have zb := hb2.size; have hbw := start2 hb2; have y1 := size2b hb2; have y0 := Nat.lt_of_succ_lt y1)
        | (go_at_call 54; refine (itime_any _ _).mono ?_; rintro e w2 ⟨rfl, rfl⟩; rw [h2]))
      refine bodyPost_ret (results_one rfl _ _ _ [.int .i64 0, .int .i64 0, .int .i64 0, .int .i64 0] rfl (cells_set4 (u0 := .int .i64 0) (u1 := .int .i64 0) (u2 := .int .i64 0) (u3 := .int .i64 0) _ _ _ _ ?_ ?_ ?_ ?_) Try.underlying25 rfl (by kernel_rfl)) rfl ?_
      · go_simp
      · go_simp
      · go_simp
      · go_simp
      exact ⟨rfl, by go_grown⟩
    · cases h4 : rateB r'
      · rw [reset_no (by unfold resetOk; rw [h1, h4]; rfl)]
        go_enter Try.func15, Try.ntmps15
        go_wp2_with (first
          | (go_at_call 53; refine (fillOf_any _ _ _ _ _).mono ?_; rintro e w2 ⟨rfl, hb2⟩; rw [h1]; have kc := below_cells4 hb2; have kf := below_frozens4 hb2; have zb := hb2.size; have hbw := start2 hb2; have y1 := size2b hb2; have y0 := Nat.lt_of_succ_lt y1)
          | (go_at_call 54; refine (itime_any _ _).mono ?_; rintro e w2 ⟨rfl, rfl⟩; rw [h2])
          | (go_at_call 60; refine (irate_any _ _).mono ?_; rintro e w2 ⟨rfl, rfl⟩; rw [h4]))
        refine bodyPost_ret (results_one rfl _ _ _ [.int .i64 0, .int .i64 0, .int .i64 0, .int .i64 0] rfl (cells_set4 (u0 := .int .i64 0) (u1 := .int .i64 0) (u2 := .int .i64 0) (u3 := .int .i64 0) _ _ _ _ ?_ ?_ ?_ ?_) Try.underlying25 rfl (by kernel_rfl)) rfl ?_
        · go_simp
        · go_simp
        · go_simp
        · go_simp
        exact ⟨rfl, by go_grown⟩
      · cases h5 : winB u'
        · rw [reset_no (by unfold resetOk; rw [h1, h4, h5]; rfl)]
          go_enter Try.func15, Try.ntmps15
          go_wp2_with (first
            | (go_at_call 53; refine (fillOf_any _ _ _ _ _).mono ?_; rintro e w2 ⟨rfl, hb2⟩; rw [h1]; have kc := below_cells4 hb2; have kf := below_frozens4 hb2; have zb := hb2.size; have hbw := start2 hb2; have y1 := size2b hb2; have y0 := Nat.lt_of_succ_lt y1)
            | (go_at_call 54; refine (itime_any _ _).mono ?_; rintro e w2 ⟨rfl, rfl⟩; rw [h2])
            | (go_at_call 60; refine (irate_any _ _).mono ?_; rintro e w2 ⟨rfl, rfl⟩; rw [h4])
            | (go_at_call 61; refine (iwin_any _ _).mono ?_; rintro e w2 ⟨rfl, rfl⟩; rw [h5]))
          refine bodyPost_ret (results_one rfl _ _ _ [.int .i64 0, .int .i64 0, .int .i64 0, .int .i64 0] rfl (cells_set4 (u0 := .int .i64 0) (u1 := .int .i64 0) (u2 := .int .i64 0) (u3 := .int .i64 0) _ _ _ _ ?_ ?_ ?_ ?_) Try.underlying25 rfl (by kernel_rfl)) rfl ?_
          · go_simp
          · go_simp
          · go_simp
          · go_simp
          exact ⟨rfl, by go_grown⟩
        · have hw : resetOf r u l t r' u' now = (r', u', min (fillL r u l t now) (1000000000 * u'), fillT t now) := by unfold resetOf resetOk; rw [h1, h4, h5, h2]; rfl
          rw [hw]
          have n5 := win_num h5
          obtain ⟨nr, nu, nl, nt⟩ := bok_num h1
          have nf := fill_bounds (now := now) (t := t) nu nl nr.1
          clear hw
          go_enter Try.func15, Try.ntmps15
          go_upto_region 7 with (first
            | (go_at_call 53; refine (fillOf_any _ _ _ _ _).mono ?_; rintro e w2 ⟨rfl, hb2⟩; rw [h1]; have kc := below_cells4 hb2; have kf := below_frozens4 hb2; have zb := hb2.size; have hbw := start2 hb2; have y1 := size2b hb2; have y0 := Nat.lt_of_succ_lt y1)
            | (go_at_call 54; refine (itime_any _ _).mono ?_; rintro e w2 ⟨rfl, rfl⟩; rw [h2])
            | (go_at_call 60; refine (irate_any _ _).mono ?_; rintro e w2 ⟨rfl, rfl⟩; rw [h4])
            | (go_at_call 61; refine (iwin_any _ _).mono ?_; rintro e w2 ⟨rfl, rfl⟩; rw [h5])
            | (go_at_call 108; refine (ifilled_any _ h1 h2).mono ?_; rintro e w3 ⟨rfl, hb3⟩; have kc := fun b o h => (below_cells4 hb3 b o (Nat.lt_of_lt_of_le h zb)).trans (kc b o h); have kf := fun b o h => (below_frozens4 hb3 b o (Nat.lt_of_lt_of_le h zb)).trans (kf b o h); have hbw := below_two hbw hb3; have y1 := Nat.lt_of_lt_of_le y1 hb3.size; have y0 := Nat.lt_of_succ_lt y1))
          have D : Hid (Pair4 w _ w3.heap.size (w.heap.size + 1) r' u' (fillL r u l t now) (fillT t now)) := pair_var ((kc _ _ (by simp)).trans (by go_simp)) ((kc _ _ (by simp)).trans (by go_simp)) ((kc _ _ (by simp)).trans (by go_simp)) ((kc _ _ (by simp)).trans (by go_simp)) (fun o => (kf _ _ (by simp)).trans (by go_simp)) hbw y1
          clear kc kf zb
          go_cut [] from 42 (fun wd => Pair4 w wd w3.heap.size (w.heap.size + 1) r' u' (min (fillL r u l t now) (1000000000 * u')) (fillT t now))
          case first =>
            go_region_with
              (first
                | (go_at_call 62; refine (ifull_any _ _ _ _ _ n5).mono ?_; rintro e w4 ⟨rfl, hb4⟩; have D4 : Hid (Pair4 w w4 w3.heap.size (w.heap.size + 1) r' u' (fillL r u l t now) (fillT t now)) := D.out.next (below_two (by go_grown) hb4); have c0 := D4.out.c0; have c1 := D4.out.c1; have c2 := D4.out.c2; have c3 := D4.out.c3; have fa := D4.out.fa))
            all_goals (repeat go_step)
            all_goals go_meet
            all_goals exact D4.out.least
          case rest =>
          clear D
          obtain ⟨c0, c1, c2, c3, d0, d1, d2, d3, fa, fb, hbw, y0, y1, ya, ne⟩ := hcut
          go_wp2
          refine bodyPost_ret (results_one rfl _ _ _ [.int .i64 r', .int .i64 u', .int .i64 (min (fillL r u l t now) (1000000000 * u')), .int .i64 (fillT t now)] rfl (cells_set4 (u0 := .int .i64 0) (u1 := .int .i64 0) (u2 := .int .i64 0) (u3 := .int .i64 0) _ _ _ _ ?_ ?_ ?_ ?_) Try.underlying25 rfl (by kernel_rfl)) rfl ?_
          · go_simp
          · go_simp
          · go_simp
          · go_simp
          exact ⟨rfl, by go_grown⟩
end Go.Proofs.Ytmophpbfaonfmac

/- What impl's Join and Quit answer. -/
import Derived.Test.YtoeiheccmpjclafImplSeat3
import Derived.Test.YtoeiheccmpjclafImplPlc2
namespace Go.Proofs.Ytoeiheccmpjclaf
open Go.ChangeShapes Go.WideShapes Go.ChangeAt Go.RowKit
set_option maxRecDepth 100000
set_option linter.unusedVariables false
set_option linter.unusedSimpArgs false

theorem insI_len {xs : List Int} {id : Int} : (insI xs id).length = xs.length + 1 := by
  unfold insI
  rw [List.length_append, List.length_cons]
  have h := congrArg List.length (List.takeWhile_append_dropWhile (p := fun y => decide (y < id)) (l := xs))
  rw [List.length_append] at h
  omega
theorem delI_lt {xs : List Int} {id : Int} (h : hasI id xs = true) : (delI xs id).length < xs.length := by
  unfold delI
  rcases Nat.lt_or_ge (xs.filter fun y => !decide (y = id)).length xs.length with k | k
  · exact k
  · have e := List.length_filter_eq_length_iff.1 (Nat.le_antisymm (List.length_filter_le _ _) k)
    have := e id (of_decide_eq_true h)
    simp at this
set_option maxHeartbeats 4000000 in
theorem implJoin_no0 {wd fl id : Int} {w : World} {a : Option Addr} (cap : Nat) {xs : List Int} (hp : plB wd fl xs = false) (smp : ISmp w.heap.size w a xs) : Calls Try.prog 16 #[.agg #[.int .i64 wd, .int .i64 fl, .slice a xs.length cap], .int .i64 id] w fun e w' => e = .returned (.tuple #[.agg #[.int .i64 0, .int .i64 0, .slice none 0 0], .bool false]) ∧ Below w.heap.size w w' := by
  go_enter Try.func16, Try.ntmps16
  go_wp2_with (first
    | (go_at_call 22; refine (implPlaceOk_is cap hp (smp.here (by go_grown))).mono ?_; rintro e w3 ⟨rfl, hbw3⟩; have hbw : Below w.heap.size w w3 := below_two (by go_grown) hbw3; have kc := below_cells4 hbw3; have kf := below_frozens4 hbw3; have zl := hbw3.size; (try simp at zl); have p0 : w3.cell? ⟨w.heap.size, 0, none⟩ = some (.int .i64 wd) := (kc _ _ (by simp; try omega)).trans (by go_simp); have p1 : w3.cell? ⟨w.heap.size, 1, none⟩ = some (.int .i64 fl) := (kc _ _ (by simp; try omega)).trans (by go_simp); have p2 : w3.cell? ⟨w.heap.size, 2, none⟩ = some (.slice a xs.length cap) := (kc _ _ (by simp; try omega)).trans (by go_simp); have v0 : w3.cell? ⟨w.heap.size + 1, 0, none⟩ = some (.int .i64 0) := (kc _ _ (by simp; try omega)).trans (by go_simp); have v1 : w3.cell? ⟨w.heap.size + 1, 1, none⟩ = some (.int .i64 0) := (kc _ _ (by simp; try omega)).trans (by go_simp); have v2 : w3.cell? ⟨w.heap.size + 1, 2, none⟩ = some (.slice none 0 0) := (kc _ _ (by simp; try omega)).trans (by go_simp); have vz : ∀ o : Nat, w3.frozen? ⟨w.heap.size + 1, o, none⟩ = false := (fun o => (kf _ _ (by simp; try omega)).trans (by go_simp)); have pz : ∀ o : Nat, w3.frozen? ⟨w.heap.size, o, none⟩ = false := (fun o => (kf _ _ (by simp; try omega)).trans (by go_simp)); clear kc kf))
  obtain ⟨y, ey, cs, fzy, sz, hbel, hon⟩ := over3 (.int .i64 0) (.int .i64 0) (.slice none 0 0) (g := w.heap.size + 1) v0 v1 v2
  rw [← ey]
  refine bodyPost_ret (results_two rfl _ _ _ [.int .i64 0, .int .i64 0, .slice none 0 0] rfl cs Try.underlying37 rfl (by kernel_rfl)) rfl ?_
  exact ⟨rfl, hbw.trans (hbel _ (by omega))⟩
set_option maxHeartbeats 4000000 in
theorem implJoin_no1 {wd fl id : Int} {w : World} {a : Option Addr} (cap : Nat) {xs : List Int} (hp : plB wd fl xs = true) (hn : inQ 0 id 1000000 = false) (smp : ISmp w.heap.size w a xs) : Calls Try.prog 16 #[.agg #[.int .i64 wd, .int .i64 fl, .slice a xs.length cap], .int .i64 id] w fun e w' => e = .returned (.tuple #[.agg #[.int .i64 0, .int .i64 0, .slice none 0 0], .bool false]) ∧ Below w.heap.size w w' := by
  go_enter Try.func16, Try.ntmps16
  go_wp2_with (first
    | (go_at_call 22; refine (implPlaceOk_is cap hp (smp.here (by go_grown))).mono ?_; rintro e w3 ⟨rfl, hbw3⟩; have hbw : Below w.heap.size w w3 := below_two (by go_grown) hbw3; have kc := below_cells4 hbw3; have kf := below_frozens4 hbw3; have zl := hbw3.size; (try simp at zl); have p0 : w3.cell? ⟨w.heap.size, 0, none⟩ = some (.int .i64 wd) := (kc _ _ (by simp; try omega)).trans (by go_simp); have p1 : w3.cell? ⟨w.heap.size, 1, none⟩ = some (.int .i64 fl) := (kc _ _ (by simp; try omega)).trans (by go_simp); have p2 : w3.cell? ⟨w.heap.size, 2, none⟩ = some (.slice a xs.length cap) := (kc _ _ (by simp; try omega)).trans (by go_simp); have v0 : w3.cell? ⟨w.heap.size + 1, 0, none⟩ = some (.int .i64 0) := (kc _ _ (by simp; try omega)).trans (by go_simp); have v1 : w3.cell? ⟨w.heap.size + 1, 1, none⟩ = some (.int .i64 0) := (kc _ _ (by simp; try omega)).trans (by go_simp); have v2 : w3.cell? ⟨w.heap.size + 1, 2, none⟩ = some (.slice none 0 0) := (kc _ _ (by simp; try omega)).trans (by go_simp); have vz : ∀ o : Nat, w3.frozen? ⟨w.heap.size + 1, o, none⟩ = false := (fun o => (kf _ _ (by simp; try omega)).trans (by go_simp)); have pz : ∀ o : Nat, w3.frozen? ⟨w.heap.size, o, none⟩ = false := (fun o => (kf _ _ (by simp; try omega)).trans (by go_simp)); clear kc kf)
    | (go_at_call 45; refine (iId_is hn _).mono ?_; rintro e wM ⟨rfl, hM⟩; have hM := hM.symm; subst hM))
  obtain ⟨y, ey, cs, fzy, sz, hbel, hon⟩ := over3 (.int .i64 0) (.int .i64 0) (.slice none 0 0) (g := w.heap.size + 1) v0 v1 v2
  rw [← ey]
  refine bodyPost_ret (results_two rfl _ _ _ [.int .i64 0, .int .i64 0, .slice none 0 0] rfl cs Try.underlying37 rfl (by kernel_rfl)) rfl ?_
  exact ⟨rfl, hbw.trans (hbel _ (by omega))⟩
set_option maxHeartbeats 4000000 in
theorem implJoin_no3 {wd fl id : Int} {w : World} {a : Option Addr} (cap : Nat) {xs : List Int} (hp : plB wd fl xs = true) (hn : inQ 0 id 1000000 = true) (h5 : xs.length = 50) (smp : ISmp w.heap.size w a xs) : Calls Try.prog 16 #[.agg #[.int .i64 wd, .int .i64 fl, .slice a xs.length cap], .int .i64 id] w fun e w' => e = .returned (.tuple #[.agg #[.int .i64 0, .int .i64 0, .slice none 0 0], .bool false]) ∧ Below w.heap.size w w' := by
  have h5' : (xs.length : Int) = 50 := by omega
  have h5b : ((xs.length : Int) == 50) = true := by rw [h5']; rfl
  have H5 : Hid (xs.length = 50) := h5
  clear h5
  go_enter Try.func16, Try.ntmps16
  go_wp2_with (first
    | (go_at_call 22; refine (implPlaceOk_is cap hp (smp.here (by go_grown))).mono ?_; rintro e w3 ⟨rfl, hbw3⟩; have hbw : Below w.heap.size w w3 := below_two (by go_grown) hbw3; have kc := below_cells4 hbw3; have kf := below_frozens4 hbw3; have zl := hbw3.size; (try simp at zl); have p0 : w3.cell? ⟨w.heap.size, 0, none⟩ = some (.int .i64 wd) := (kc _ _ (by simp; try omega)).trans (by go_simp); have p1 : w3.cell? ⟨w.heap.size, 1, none⟩ = some (.int .i64 fl) := (kc _ _ (by simp; try omega)).trans (by go_simp); have p2 : w3.cell? ⟨w.heap.size, 2, none⟩ = some (.slice a xs.length cap) := (kc _ _ (by simp; try omega)).trans (by go_simp); have v0 : w3.cell? ⟨w.heap.size + 1, 0, none⟩ = some (.int .i64 0) := (kc _ _ (by simp; try omega)).trans (by go_simp); have v1 : w3.cell? ⟨w.heap.size + 1, 1, none⟩ = some (.int .i64 0) := (kc _ _ (by simp; try omega)).trans (by go_simp); have v2 : w3.cell? ⟨w.heap.size + 1, 2, none⟩ = some (.slice none 0 0) := (kc _ _ (by simp; try omega)).trans (by go_simp); have vz : ∀ o : Nat, w3.frozen? ⟨w.heap.size + 1, o, none⟩ = false := (fun o => (kf _ _ (by simp; try omega)).trans (by go_simp)); have pz : ∀ o : Nat, w3.frozen? ⟨w.heap.size, o, none⟩ = false := (fun o => (kf _ _ (by simp; try omega)).trans (by go_simp)); clear kc kf)
    | (go_at_call 45; refine (iId_is hn _).mono ?_; rintro e wM ⟨rfl, hM⟩; have hM := hM.symm; subst hM))
  obtain ⟨y, ey, cs, fzy, sz, hbel, hon⟩ := over3 (.int .i64 0) (.int .i64 0) (.slice none 0 0) (g := w.heap.size + 1) v0 v1 v2
  rw [← ey]
  refine bodyPost_ret (results_two rfl _ _ _ [.int .i64 0, .int .i64 0, .slice none 0 0] rfl cs Try.underlying37 rfl (by kernel_rfl)) rfl ?_
  exact ⟨rfl, hbw.trans (hbel _ (by omega))⟩
set_option maxHeartbeats 4000000 in
theorem implJoin_no2 {wd fl id : Int} {w : World} {a : Option Addr} (cap : Nat) {xs : List Int} (hp : plB wd fl xs = true) (hn : inQ 0 id 1000000 = true) (h5 : xs.length < 50) (hh : hasI id xs = true) (smp : ISmp w.heap.size w a xs) : Calls Try.prog 16 #[.agg #[.int .i64 wd, .int .i64 fl, .slice a xs.length cap], .int .i64 id] w fun e w' => e = .returned (.tuple #[.agg #[.int .i64 0, .int .i64 0, .slice none 0 0], .bool false]) ∧ Below w.heap.size w w' := by
  obtain ⟨Z, zs, HZ, hz⟩ := seats_zero
  have hl := (pl_num hp).2.2
  have hMT := (pl_yes hp).2.2.2
  have hgd : Try.prog.eqGuardType Try.prog.depth 67 = false := by kernel_rfl
  have h5' : ¬ ((xs.length : Int) = 50) := by omega
  have h5b : ((xs.length : Int) == 50) = false := beq_eq_false_iff_ne.2 h5'
  have heq : ∀ w : World, (Op.equalIn 10000 67 (.agg (flatB (seatsR xs)).toArray) (.agg (flatB (seatsR xs)).toArray)).run Try.prog w = .ok true w := fun w => by rw [eq_rows w _ _ (seatsR_len hl) (seatsR_len hl)]; congr 1; exact decide_eq_true rfl
  go_enter Try.func16, Try.ntmps16
  go_upto_region 4 with (first
    | (go_at_call 22; refine (implPlaceOk_is cap hp (smp.here (by go_grown))).mono ?_; rintro e w3 ⟨rfl, hbw3⟩; have hbw : Below w.heap.size w w3 := below_two (by go_grown) hbw3; have kc := below_cells4 hbw3; have kf := below_frozens4 hbw3; have zl := hbw3.size; (try simp at zl); have p0 : w3.cell? ⟨w.heap.size, 0, none⟩ = some (.int .i64 wd) := (kc _ _ (by simp; try omega)).trans (by go_simp); have p1 : w3.cell? ⟨w.heap.size, 1, none⟩ = some (.int .i64 fl) := (kc _ _ (by simp; try omega)).trans (by go_simp); have p2 : w3.cell? ⟨w.heap.size, 2, none⟩ = some (.slice a xs.length cap) := (kc _ _ (by simp; try omega)).trans (by go_simp); have v0 : w3.cell? ⟨w.heap.size + 1, 0, none⟩ = some (.int .i64 0) := (kc _ _ (by simp; try omega)).trans (by go_simp); have v1 : w3.cell? ⟨w.heap.size + 1, 1, none⟩ = some (.int .i64 0) := (kc _ _ (by simp; try omega)).trans (by go_simp); have v2 : w3.cell? ⟨w.heap.size + 1, 2, none⟩ = some (.slice none 0 0) := (kc _ _ (by simp; try omega)).trans (by go_simp); have vz : ∀ o : Nat, w3.frozen? ⟨w.heap.size + 1, o, none⟩ = false := (fun o => (kf _ _ (by simp; try omega)).trans (by go_simp)); have pz : ∀ o : Nat, w3.frozen? ⟨w.heap.size, o, none⟩ = false := (fun o => (kf _ _ (by simp; try omega)).trans (by go_simp)); clear kc kf)
    | (go_at_call 45; refine (iId_is hn _).mono ?_; rintro e wM ⟨rfl, hM⟩; have hM := hM.symm; subst hM)
    | (go_at_call 46; refine (seatsOf_any cap hl (smp.here hbw)).mono ?_; rintro e w5 ⟨rfl, hb5⟩; have qw5 := zl; have hbw : Below w.heap.size w w5 := below_two hbw hb5; have p0 := (hb5.cell (p := ⟨w.heap.size, 0, none⟩) (by show w.heap.size < _; omega)).trans p0; have p1 := (hb5.cell (p := ⟨w.heap.size, 1, none⟩) (by show w.heap.size < _; omega)).trans p1; have p2 := (hb5.cell (p := ⟨w.heap.size, 2, none⟩) (by show w.heap.size < _; omega)).trans p2; have v0 := (hb5.cell (p := ⟨w.heap.size + 1, 0, none⟩) (by show w.heap.size + 1 < _; omega)).trans v0; have v1 := (hb5.cell (p := ⟨w.heap.size + 1, 1, none⟩) (by show w.heap.size + 1 < _; omega)).trans v1; have v2 := (hb5.cell (p := ⟨w.heap.size + 1, 2, none⟩) (by show w.heap.size + 1 < _; omega)).trans v2; have vz : ∀ o : Nat, w5.frozen? ⟨w.heap.size + 1, o, none⟩ = false := fun o => (hb5.frozen (p := ⟨w.heap.size + 1, o, none⟩) (by show w.heap.size + 1 < _; omega)).trans (vz o); have zl : w.heap.size + 1 + 1 ≤ w5.heap.size := Nat.le_trans zl hb5.size; have pz : ∀ o : Nat, w5.frozen? ⟨w.heap.size, o, none⟩ = false := (fun o => (hb5.frozen (p := ⟨w.heap.size, o, none⟩) (by show w.heap.size < _; omega)).trans (pz o)))
    | (refine wpList_store_row rfl 67 (.tmp 6) (.tmp 25) rfl _ _ rfl rfl _ _ (heap_alloc_new _ _) (by rw [size_row (seatsR_len hl)]; exact info_seats) (by rw [HZ.out.1, size_row HZ.out.2.2, size_row (seatsR_len hl)]) (all_one _) ?_))
  obtain ⟨x5, hx5⟩ : ∃ x, x = (w5.alloc (.cells Z 67)).setRow w5.heap.size (flatB (seatsR xs)).toArray := ⟨_, rfl⟩
  obtain ⟨g1, eg1⟩ : ∃ b, b = w5.heap.size := ⟨_, rfl⟩
  rw [← hx5, ← eg1]
  have kx5 : Below w5.heap.size w5 x5 := by rw [hx5]; exact below_setRow (new_below _ _) (Nat.le_refl _) _
  have R1 : Hid (RowB x5 g1 (seatsR xs)) := by rw [hx5, eg1]; exact ⟨seatsR_len hl, setRow_heap _ _ _ _ _ _ (heap_alloc_new _ _)⟩
  have yg1 : w5.heap.size ≤ g1 := by omega
  have ug1 : g1 < x5.heap.size := by have := R1.out.z; exact this
  clear hx5 eg1
  have zqx5 := zl
  have hbw : Below w.heap.size w x5 := below_two hbw kx5
  have p0 := (kx5.cell (p := ⟨w.heap.size, 0, none⟩) (by show w.heap.size < _; omega)).trans p0
  have p1 := (kx5.cell (p := ⟨w.heap.size, 1, none⟩) (by show w.heap.size < _; omega)).trans p1
  have p2 := (kx5.cell (p := ⟨w.heap.size, 2, none⟩) (by show w.heap.size < _; omega)).trans p2
  have v0 := (kx5.cell (p := ⟨w.heap.size + 1, 0, none⟩) (by show w.heap.size + 1 < _; omega)).trans v0
  have v1 := (kx5.cell (p := ⟨w.heap.size + 1, 1, none⟩) (by show w.heap.size + 1 < _; omega)).trans v1
  have v2 := (kx5.cell (p := ⟨w.heap.size + 1, 2, none⟩) (by show w.heap.size + 1 < _; omega)).trans v2
  have vz : ∀ o : Nat, x5.frozen? ⟨w.heap.size + 1, o, none⟩ = false := fun o => (kx5.frozen (p := ⟨w.heap.size + 1, o, none⟩) (by show w.heap.size + 1 < _; omega)).trans (vz o)
  have zl : w.heap.size + 1 + 1 ≤ x5.heap.size := Nat.le_trans zl kx5.size
  have pz : ∀ o : Nat, x5.frozen? ⟨w.heap.size, o, none⟩ = false := (fun o => (kx5.frozen (p := ⟨w.heap.size, o, none⟩) (by show w.heap.size < _; omega)).trans (pz o))
  go_upto_region 5 with (first
    | (refine wpList_load_row rfl 67 (.tmp 6) rfl _ rfl _ _ _ _ R1.out.2 und_seats rfl (by rw [size_row R1.out.1]; exact info_seats) ?_)
    | (go_at_call 47; refine (with_has hMT h5 hh).mono ?_; rintro e w6 ⟨rfl, hb6⟩; have qw6 := zl; have hbw : Below w.heap.size w w6 := below_two hbw hb6; have p0 := (hb6.cell (p := ⟨w.heap.size, 0, none⟩) (by show w.heap.size < _; omega)).trans p0; have p1 := (hb6.cell (p := ⟨w.heap.size, 1, none⟩) (by show w.heap.size < _; omega)).trans p1; have p2 := (hb6.cell (p := ⟨w.heap.size, 2, none⟩) (by show w.heap.size < _; omega)).trans p2; have v0 := (hb6.cell (p := ⟨w.heap.size + 1, 0, none⟩) (by show w.heap.size + 1 < _; omega)).trans v0; have v1 := (hb6.cell (p := ⟨w.heap.size + 1, 1, none⟩) (by show w.heap.size + 1 < _; omega)).trans v1; have v2 := (hb6.cell (p := ⟨w.heap.size + 1, 2, none⟩) (by show w.heap.size + 1 < _; omega)).trans v2; have vz : ∀ o : Nat, w6.frozen? ⟨w.heap.size + 1, o, none⟩ = false := fun o => (hb6.frozen (p := ⟨w.heap.size + 1, o, none⟩) (by show w.heap.size + 1 < _; omega)).trans (vz o); have zl : w.heap.size + 1 + 1 ≤ w6.heap.size := Nat.le_trans zl hb6.size; have pz : ∀ o : Nat, w6.frozen? ⟨w.heap.size, o, none⟩ = false := (fun o => (hb6.frozen (p := ⟨w.heap.size, o, none⟩) (by show w.heap.size < _; omega)).trans (pz o)); have R1 : Hid (RowB w6 g1 (seatsR xs)) := R1.out.next hb6)
    | (refine wpList_store_row rfl 67 (.tmp 7) (.tmp 28) rfl _ _ rfl rfl _ _ (heap_alloc_new _ _) (by rw [size_row (seatsR_len hl)]; exact info_seats) (by rw [HZ.out.1, size_row HZ.out.2.2, size_row (seatsR_len hl)]) (all_one _) ?_))
  obtain ⟨x6, hx6⟩ : ∃ x, x = (w6.alloc (.cells Z 67)).setRow w6.heap.size (flatB (seatsR xs)).toArray := ⟨_, rfl⟩
  obtain ⟨g2, eg2⟩ : ∃ b, b = w6.heap.size := ⟨_, rfl⟩
  rw [← hx6, ← eg2]
  have kx6 : Below w6.heap.size w6 x6 := by rw [hx6]; exact below_setRow (new_below _ _) (Nat.le_refl _) _
  have R2 : Hid (RowB x6 g2 (seatsR xs)) := by rw [hx6, eg2]; exact ⟨(seatsR_len hl), setRow_heap _ _ _ _ _ _ (heap_alloc_new _ _)⟩
  have yg2 : w6.heap.size ≤ g2 := by omega
  have ug2 : g2 < x6.heap.size := by have := R2.out.z; exact this
  clear hx6 eg2
  have zqx6 := zl
  have hbw : Below w.heap.size w x6 := below_two hbw kx6
  have p0 := (kx6.cell (p := ⟨w.heap.size, 0, none⟩) (by show w.heap.size < _; omega)).trans p0
  have p1 := (kx6.cell (p := ⟨w.heap.size, 1, none⟩) (by show w.heap.size < _; omega)).trans p1
  have p2 := (kx6.cell (p := ⟨w.heap.size, 2, none⟩) (by show w.heap.size < _; omega)).trans p2
  have v0 := (kx6.cell (p := ⟨w.heap.size + 1, 0, none⟩) (by show w.heap.size + 1 < _; omega)).trans v0
  have v1 := (kx6.cell (p := ⟨w.heap.size + 1, 1, none⟩) (by show w.heap.size + 1 < _; omega)).trans v1
  have v2 := (kx6.cell (p := ⟨w.heap.size + 1, 2, none⟩) (by show w.heap.size + 1 < _; omega)).trans v2
  have vz : ∀ o : Nat, x6.frozen? ⟨w.heap.size + 1, o, none⟩ = false := fun o => (kx6.frozen (p := ⟨w.heap.size + 1, o, none⟩) (by show w.heap.size + 1 < _; omega)).trans (vz o)
  have zl : w.heap.size + 1 + 1 ≤ x6.heap.size := Nat.le_trans zl kx6.size
  have pz : ∀ o : Nat, x6.frozen? ⟨w.heap.size, o, none⟩ = false := (fun o => (kx6.frozen (p := ⟨w.heap.size, o, none⟩) (by show w.heap.size < _; omega)).trans (pz o))
  have R1 : Hid (RowB x6 g1 (seatsR xs)) := R1.out.next kx6
  go_wp2_with (first
    | (refine wpList_load_row rfl 67 (.tmp 7) rfl _ rfl _ _ _ _ R2.out.2 und_seats rfl (by rw [size_row R2.out.1]; exact info_seats) ?_)
    | (refine wpList_load_row rfl 67 (.tmp 6) rfl _ rfl _ _ _ _ R1.out.2 und_seats rfl (by rw [size_row R1.out.1]; exact info_seats) ?_))
  obtain ⟨y, ey, cs, fzy, sz, hbel, hon⟩ := over3 (.int .i64 0) (.int .i64 0) (.slice none 0 0) (g := w.heap.size + 1) v0 v1 v2
  rw [← ey]
  refine bodyPost_ret (results_two rfl _ _ _ [.int .i64 0, .int .i64 0, .slice none 0 0] rfl cs Try.underlying37 rfl (by kernel_rfl)) rfl ?_
  exact ⟨rfl, hbw.trans (hbel _ (by omega))⟩
set_option maxHeartbeats 4000000 in
theorem implJoin_yes {wd fl id : Int} {w : World} {a : Option Addr} (cap : Nat) {xs : List Int} (hp : plB wd fl xs = true) (hn : inQ 0 id 1000000 = true) (h5 : xs.length < 50) (hh : hasI id xs = false) (smp : ISmp w.heap.size w a xs) : Calls Try.prog 16 #[.agg #[.int .i64 wd, .int .i64 fl, .slice a xs.length cap], .int .i64 id] w (AnsPT w (insI xs id) wd fl true) := by
  obtain ⟨Z, zs, HZ, hz⟩ := seats_zero
  have hl := (pl_num hp).2.2
  have hMT := (pl_yes hp).2.2.2
  have hgd : Try.prog.eqGuardType Try.prog.depth 67 = false := by kernel_rfl
  have h5' : ¬ ((xs.length : Int) = 50) := by omega
  have h5b : ((xs.length : Int) == 50) = false := beq_eq_false_iff_ne.2 h5'
  have heq : ∀ w : World, (Op.equalIn 10000 67 (.agg (flatB (seatsR (insI xs id))).toArray) (.agg (flatB (seatsR xs)).toArray)).run Try.prog w = .ok false w := fun w => by rw [eq_rows w _ _ (seatsR_len (by rw [insI_len]; omega)) (seatsR_len hl)]; congr 1; exact decide_eq_false (fun e => by have h := congrArg List.length (seatsR_inj e); rw [insI_len] at h; omega)
  go_enter Try.func16, Try.ntmps16
  go_upto_region 4 with (first
    | (go_at_call 22; refine (implPlaceOk_is cap hp (smp.here (by go_grown))).mono ?_; rintro e w3 ⟨rfl, hbw3⟩; have hbw : Below w.heap.size w w3 := below_two (by go_grown) hbw3; have kc := below_cells4 hbw3; have kf := below_frozens4 hbw3; have zl := hbw3.size; (try simp at zl); have p0 : w3.cell? ⟨w.heap.size, 0, none⟩ = some (.int .i64 wd) := (kc _ _ (by simp; try omega)).trans (by go_simp); have p1 : w3.cell? ⟨w.heap.size, 1, none⟩ = some (.int .i64 fl) := (kc _ _ (by simp; try omega)).trans (by go_simp); have p2 : w3.cell? ⟨w.heap.size, 2, none⟩ = some (.slice a xs.length cap) := (kc _ _ (by simp; try omega)).trans (by go_simp); have v0 : w3.cell? ⟨w.heap.size + 1, 0, none⟩ = some (.int .i64 0) := (kc _ _ (by simp; try omega)).trans (by go_simp); have v1 : w3.cell? ⟨w.heap.size + 1, 1, none⟩ = some (.int .i64 0) := (kc _ _ (by simp; try omega)).trans (by go_simp); have v2 : w3.cell? ⟨w.heap.size + 1, 2, none⟩ = some (.slice none 0 0) := (kc _ _ (by simp; try omega)).trans (by go_simp); have vz : ∀ o : Nat, w3.frozen? ⟨w.heap.size + 1, o, none⟩ = false := (fun o => (kf _ _ (by simp; try omega)).trans (by go_simp)); have pz : ∀ o : Nat, w3.frozen? ⟨w.heap.size, o, none⟩ = false := (fun o => (kf _ _ (by simp; try omega)).trans (by go_simp)); clear kc kf)
    | (go_at_call 45; refine (iId_is hn _).mono ?_; rintro e wM ⟨rfl, hM⟩; have hM := hM.symm; subst hM)
    | (go_at_call 46; refine (seatsOf_any cap hl (smp.here hbw)).mono ?_; rintro e w5 ⟨rfl, hb5⟩; have qw5 := zl; have hbw : Below w.heap.size w w5 := below_two hbw hb5; have p0 := (hb5.cell (p := ⟨w.heap.size, 0, none⟩) (by show w.heap.size < _; omega)).trans p0; have p1 := (hb5.cell (p := ⟨w.heap.size, 1, none⟩) (by show w.heap.size < _; omega)).trans p1; have p2 := (hb5.cell (p := ⟨w.heap.size, 2, none⟩) (by show w.heap.size < _; omega)).trans p2; have v0 := (hb5.cell (p := ⟨w.heap.size + 1, 0, none⟩) (by show w.heap.size + 1 < _; omega)).trans v0; have v1 := (hb5.cell (p := ⟨w.heap.size + 1, 1, none⟩) (by show w.heap.size + 1 < _; omega)).trans v1; have v2 := (hb5.cell (p := ⟨w.heap.size + 1, 2, none⟩) (by show w.heap.size + 1 < _; omega)).trans v2; have vz : ∀ o : Nat, w5.frozen? ⟨w.heap.size + 1, o, none⟩ = false := fun o => (hb5.frozen (p := ⟨w.heap.size + 1, o, none⟩) (by show w.heap.size + 1 < _; omega)).trans (vz o); have zl : w.heap.size + 1 + 1 ≤ w5.heap.size := Nat.le_trans zl hb5.size; have pz : ∀ o : Nat, w5.frozen? ⟨w.heap.size, o, none⟩ = false := (fun o => (hb5.frozen (p := ⟨w.heap.size, o, none⟩) (by show w.heap.size < _; omega)).trans (pz o)))
    | (refine wpList_store_row rfl 67 (.tmp 6) (.tmp 25) rfl _ _ rfl rfl _ _ (heap_alloc_new _ _) (by rw [size_row (seatsR_len hl)]; exact info_seats) (by rw [HZ.out.1, size_row HZ.out.2.2, size_row (seatsR_len hl)]) (all_one _) ?_))
  obtain ⟨x5, hx5⟩ : ∃ x, x = (w5.alloc (.cells Z 67)).setRow w5.heap.size (flatB (seatsR xs)).toArray := ⟨_, rfl⟩
  obtain ⟨g1, eg1⟩ : ∃ b, b = w5.heap.size := ⟨_, rfl⟩
  rw [← hx5, ← eg1]
  have kx5 : Below w5.heap.size w5 x5 := by rw [hx5]; exact below_setRow (new_below _ _) (Nat.le_refl _) _
  have R1 : Hid (RowB x5 g1 (seatsR xs)) := by rw [hx5, eg1]; exact ⟨seatsR_len hl, setRow_heap _ _ _ _ _ _ (heap_alloc_new _ _)⟩
  have yg1 : w5.heap.size ≤ g1 := by omega
  have ug1 : g1 < x5.heap.size := by have := R1.out.z; exact this
  clear hx5 eg1
  have zqx5 := zl
  have hbw : Below w.heap.size w x5 := below_two hbw kx5
  have p0 := (kx5.cell (p := ⟨w.heap.size, 0, none⟩) (by show w.heap.size < _; omega)).trans p0
  have p1 := (kx5.cell (p := ⟨w.heap.size, 1, none⟩) (by show w.heap.size < _; omega)).trans p1
  have p2 := (kx5.cell (p := ⟨w.heap.size, 2, none⟩) (by show w.heap.size < _; omega)).trans p2
  have v0 := (kx5.cell (p := ⟨w.heap.size + 1, 0, none⟩) (by show w.heap.size + 1 < _; omega)).trans v0
  have v1 := (kx5.cell (p := ⟨w.heap.size + 1, 1, none⟩) (by show w.heap.size + 1 < _; omega)).trans v1
  have v2 := (kx5.cell (p := ⟨w.heap.size + 1, 2, none⟩) (by show w.heap.size + 1 < _; omega)).trans v2
  have vz : ∀ o : Nat, x5.frozen? ⟨w.heap.size + 1, o, none⟩ = false := fun o => (kx5.frozen (p := ⟨w.heap.size + 1, o, none⟩) (by show w.heap.size + 1 < _; omega)).trans (vz o)
  have zl : w.heap.size + 1 + 1 ≤ x5.heap.size := Nat.le_trans zl kx5.size
  have pz : ∀ o : Nat, x5.frozen? ⟨w.heap.size, o, none⟩ = false := (fun o => (kx5.frozen (p := ⟨w.heap.size, o, none⟩) (by show w.heap.size < _; omega)).trans (pz o))
  go_upto_region 5 with (first
    | (refine wpList_load_row rfl 67 (.tmp 6) rfl _ rfl _ _ _ _ R1.out.2 und_seats rfl (by rw [size_row R1.out.1]; exact info_seats) ?_)
    | (go_at_call 47; refine (with_new hMT h5 hh).mono ?_; rintro e w6 ⟨rfl, hb6⟩; have qw6 := zl; have hbw : Below w.heap.size w w6 := below_two hbw hb6; have p0 := (hb6.cell (p := ⟨w.heap.size, 0, none⟩) (by show w.heap.size < _; omega)).trans p0; have p1 := (hb6.cell (p := ⟨w.heap.size, 1, none⟩) (by show w.heap.size < _; omega)).trans p1; have p2 := (hb6.cell (p := ⟨w.heap.size, 2, none⟩) (by show w.heap.size < _; omega)).trans p2; have v0 := (hb6.cell (p := ⟨w.heap.size + 1, 0, none⟩) (by show w.heap.size + 1 < _; omega)).trans v0; have v1 := (hb6.cell (p := ⟨w.heap.size + 1, 1, none⟩) (by show w.heap.size + 1 < _; omega)).trans v1; have v2 := (hb6.cell (p := ⟨w.heap.size + 1, 2, none⟩) (by show w.heap.size + 1 < _; omega)).trans v2; have vz : ∀ o : Nat, w6.frozen? ⟨w.heap.size + 1, o, none⟩ = false := fun o => (hb6.frozen (p := ⟨w.heap.size + 1, o, none⟩) (by show w.heap.size + 1 < _; omega)).trans (vz o); have zl : w.heap.size + 1 + 1 ≤ w6.heap.size := Nat.le_trans zl hb6.size; have pz : ∀ o : Nat, w6.frozen? ⟨w.heap.size, o, none⟩ = false := (fun o => (hb6.frozen (p := ⟨w.heap.size, o, none⟩) (by show w.heap.size < _; omega)).trans (pz o)); have R1 : Hid (RowB w6 g1 (seatsR xs)) := R1.out.next hb6)
    | (refine wpList_store_row rfl 67 (.tmp 7) (.tmp 28) rfl _ _ rfl rfl _ _ (heap_alloc_new _ _) (by rw [size_row (seatsR_len (by rw [insI_len]; omega))]; exact info_seats) (by rw [HZ.out.1, size_row HZ.out.2.2, size_row (seatsR_len (by rw [insI_len]; omega))]) (all_one _) ?_))
  obtain ⟨x6, hx6⟩ : ∃ x, x = (w6.alloc (.cells Z 67)).setRow w6.heap.size (flatB (seatsR (insI xs id))).toArray := ⟨_, rfl⟩
  obtain ⟨g2, eg2⟩ : ∃ b, b = w6.heap.size := ⟨_, rfl⟩
  rw [← hx6, ← eg2]
  have kx6 : Below w6.heap.size w6 x6 := by rw [hx6]; exact below_setRow (new_below _ _) (Nat.le_refl _) _
  have R2 : Hid (RowB x6 g2 (seatsR (insI xs id))) := by rw [hx6, eg2]; exact ⟨(seatsR_len (by rw [insI_len]; omega)), setRow_heap _ _ _ _ _ _ (heap_alloc_new _ _)⟩
  have yg2 : w6.heap.size ≤ g2 := by omega
  have ug2 : g2 < x6.heap.size := by have := R2.out.z; exact this
  clear hx6 eg2
  have zqx6 := zl
  have hbw : Below w.heap.size w x6 := below_two hbw kx6
  have p0 := (kx6.cell (p := ⟨w.heap.size, 0, none⟩) (by show w.heap.size < _; omega)).trans p0
  have p1 := (kx6.cell (p := ⟨w.heap.size, 1, none⟩) (by show w.heap.size < _; omega)).trans p1
  have p2 := (kx6.cell (p := ⟨w.heap.size, 2, none⟩) (by show w.heap.size < _; omega)).trans p2
  have v0 := (kx6.cell (p := ⟨w.heap.size + 1, 0, none⟩) (by show w.heap.size + 1 < _; omega)).trans v0
  have v1 := (kx6.cell (p := ⟨w.heap.size + 1, 1, none⟩) (by show w.heap.size + 1 < _; omega)).trans v1
  have v2 := (kx6.cell (p := ⟨w.heap.size + 1, 2, none⟩) (by show w.heap.size + 1 < _; omega)).trans v2
  have vz : ∀ o : Nat, x6.frozen? ⟨w.heap.size + 1, o, none⟩ = false := fun o => (kx6.frozen (p := ⟨w.heap.size + 1, o, none⟩) (by show w.heap.size + 1 < _; omega)).trans (vz o)
  have zl : w.heap.size + 1 + 1 ≤ x6.heap.size := Nat.le_trans zl kx6.size
  have pz : ∀ o : Nat, x6.frozen? ⟨w.heap.size, o, none⟩ = false := (fun o => (kx6.frozen (p := ⟨w.heap.size, o, none⟩) (by show w.heap.size < _; omega)).trans (pz o))
  have R1 : Hid (RowB x6 g1 (seatsR xs)) := R1.out.next kx6
  go_upto_region 8 with (first
    | (refine wpList_load_row rfl 67 (.tmp 7) rfl _ rfl _ _ _ _ R2.out.2 und_seats rfl (by rw [size_row R2.out.1]; exact info_seats) ?_)
    | (refine wpList_load_row rfl 67 (.tmp 6) rfl _ rfl _ _ _ _ R1.out.2 und_seats rfl (by rw [size_row R1.out.1]; exact info_seats) ?_)
    | (go_at_call 48; refine (members_any R2.out.1).mono ?_; rintro e w7 ⟨a5, n5, c5, rfl, iv7, hb7⟩; have qw7 := zl; have hbw : Below w.heap.size w w7 := below_two hbw hb7; have p0 := (hb7.cell (p := ⟨w.heap.size, 0, none⟩) (by show w.heap.size < _; omega)).trans p0; have p1 := (hb7.cell (p := ⟨w.heap.size, 1, none⟩) (by show w.heap.size < _; omega)).trans p1; have p2 := (hb7.cell (p := ⟨w.heap.size, 2, none⟩) (by show w.heap.size < _; omega)).trans p2; have v0 := (hb7.cell (p := ⟨w.heap.size + 1, 0, none⟩) (by show w.heap.size + 1 < _; omega)).trans v0; have v1 := (hb7.cell (p := ⟨w.heap.size + 1, 1, none⟩) (by show w.heap.size + 1 < _; omega)).trans v1; have v2 := (hb7.cell (p := ⟨w.heap.size + 1, 2, none⟩) (by show w.heap.size + 1 < _; omega)).trans v2; have vz : ∀ o : Nat, w7.frozen? ⟨w.heap.size + 1, o, none⟩ = false := fun o => (hb7.frozen (p := ⟨w.heap.size + 1, o, none⟩) (by show w.heap.size + 1 < _; omega)).trans (vz o); have zl : w.heap.size + 1 + 1 ≤ w7.heap.size := Nat.le_trans zl hb7.size; have pz : ∀ o : Nat, w7.frozen? ⟨w.heap.size, o, none⟩ = false := (fun o => (hb7.frozen (p := ⟨w.heap.size, o, none⟩) (by show w.heap.size < _; omega)).trans (pz o)); have iv7 : IV w7 _ (.slice a5 n5 c5) (insI xs id) := (by have h := iv7; rw [memb_seats] at h; exact h)))
  obtain ⟨x7, hx7⟩ : ∃ x, x = w7.setCell ⟨w.heap.size, 2, none⟩ (.slice a5 n5 c5) := ⟨_, rfl⟩
  rw [← hx7]
  have oX : Only w.heap.size w7 x7 := by rw [hx7]; exact ((Only.refl _ w7).setCell (p := ⟨w.heap.size, 2, none⟩) rfl _)
  have p0 : x7.cell? ⟨w.heap.size, 0, none⟩ = some (.int .i64 wd) := by rw [hx7]; exact (set_other4 (by decide)).trans p0
  have p1 : x7.cell? ⟨w.heap.size, 1, none⟩ = some (.int .i64 fl) := by rw [hx7]; exact (set_other4 (by decide)).trans p1
  have p2 : x7.cell? ⟨w.heap.size, 2, none⟩ = some (.slice a5 n5 c5) := by rw [hx7]; exact set_same4 _ p2
  have v0 := (oX.cell (p := ⟨w.heap.size + 1, 0, none⟩) (by show w.heap.size + 1 < _; omega) (by show w.heap.size + 1 ≠ _; omega)).trans v0
  have v1 := (oX.cell (p := ⟨w.heap.size + 1, 1, none⟩) (by show w.heap.size + 1 < _; omega) (by show w.heap.size + 1 ≠ _; omega)).trans v1
  have v2 := (oX.cell (p := ⟨w.heap.size + 1, 2, none⟩) (by show w.heap.size + 1 < _; omega) (by show w.heap.size + 1 ≠ _; omega)).trans v2
  have vz : ∀ o : Nat, x7.frozen? ⟨w.heap.size + 1, o, none⟩ = false := fun o => (oX.frozen (p := ⟨w.heap.size + 1, o, none⟩) (by show w.heap.size + 1 < _; omega) (by show w.heap.size + 1 ≠ _; omega)).trans (vz o)
  have hbw : Below w.heap.size w x7 := hbw.trans (oX.below (Nat.le_refl _) (by omega))
  have iv8 := iv7.onlyO (OnlyO.of_only oX) (fun g hg e => by have := (iv7.own hg).1; injection e with e; omega)
  have zl := Nat.le_trans zl oX.size
  clear hx7 oX
  go_wp2
  obtain ⟨y, ey, cs, fzy, sz, hbel, hon⟩ := over3 (.int .i64 wd) (.int .i64 fl) (.slice a5 n5 c5) (g := w.heap.size + 1) v0 v1 v2
  rw [← ey]
  refine bodyPost_ret (results_two rfl _ _ _ [.int .i64 wd, .int .i64 fl, .slice a5 n5 c5] rfl cs Try.underlying37 rfl (by kernel_rfl)) rfl ?_
  exact ⟨_, _, _, rfl, (iv8.onlyO (OnlyO.of_only hon) (fun g hg e => by have := (iv8.own hg).1; injection e with e; omega)).lower (by omega), hbw.trans (hbel _ (by omega))⟩
set_option maxHeartbeats 4000000 in
theorem implQuit_no0 {wd fl id n : Int} {w : World} {a : Option Addr} (cap : Nat) {xs : List Int} (hp : plB wd fl xs = false) (smp : ISmp w.heap.size w a xs) : Calls Try.prog 20 #[.agg #[.int .i64 wd, .int .i64 fl, .slice a xs.length cap], .int .i64 id, .int .i64 n] w fun e w' => e = .returned (.tuple #[.agg #[.int .i64 0, .int .i64 0, .slice none 0 0], .bool false]) ∧ Below w.heap.size w w' := by
  go_enter Try.func20, Try.ntmps20
  go_wp2_with (first
    | (go_at_call 22; refine (implPlaceOk_is cap hp (smp.here (by go_grown))).mono ?_; rintro e w3 ⟨rfl, hbw3⟩; have hbw : Below w.heap.size w w3 := below_two (by go_grown) hbw3; have kc := below_cells4 hbw3; have kf := below_frozens4 hbw3; have zl := hbw3.size; (try simp at zl); have p0 : w3.cell? ⟨w.heap.size, 0, none⟩ = some (.int .i64 wd) := (kc _ _ (by simp; try omega)).trans (by go_simp); have p1 : w3.cell? ⟨w.heap.size, 1, none⟩ = some (.int .i64 fl) := (kc _ _ (by simp; try omega)).trans (by go_simp); have p2 : w3.cell? ⟨w.heap.size, 2, none⟩ = some (.slice a xs.length cap) := (kc _ _ (by simp; try omega)).trans (by go_simp); have v0 : w3.cell? ⟨w.heap.size + 1, 0, none⟩ = some (.int .i64 0) := (kc _ _ (by simp; try omega)).trans (by go_simp); have v1 : w3.cell? ⟨w.heap.size + 1, 1, none⟩ = some (.int .i64 0) := (kc _ _ (by simp; try omega)).trans (by go_simp); have v2 : w3.cell? ⟨w.heap.size + 1, 2, none⟩ = some (.slice none 0 0) := (kc _ _ (by simp; try omega)).trans (by go_simp); have vz : ∀ o : Nat, w3.frozen? ⟨w.heap.size + 1, o, none⟩ = false := (fun o => (kf _ _ (by simp; try omega)).trans (by go_simp)); have pz : ∀ o : Nat, w3.frozen? ⟨w.heap.size, o, none⟩ = false := (fun o => (kf _ _ (by simp; try omega)).trans (by go_simp)); clear kc kf))
  obtain ⟨y, ey, cs, fzy, sz, hbel, hon⟩ := over3 (.int .i64 0) (.int .i64 0) (.slice none 0 0) (g := w.heap.size + 1) v0 v1 v2
  rw [← ey]
  refine bodyPost_ret (results_two rfl _ _ _ [.int .i64 0, .int .i64 0, .slice none 0 0] rfl cs Try.underlying37 rfl (by kernel_rfl)) rfl ?_
  exact ⟨rfl, hbw.trans (hbel _ (by omega))⟩
set_option maxHeartbeats 4000000 in
theorem implQuit_no2 {wd fl id n : Int} {w : World} {a : Option Addr} (cap : Nat) {xs : List Int} (hp : plB wd fl xs = true) (hn : w10B n = false) (smp : ISmp w.heap.size w a xs) : Calls Try.prog 20 #[.agg #[.int .i64 wd, .int .i64 fl, .slice a xs.length cap], .int .i64 id, .int .i64 n] w fun e w' => e = .returned (.tuple #[.agg #[.int .i64 0, .int .i64 0, .slice none 0 0], .bool false]) ∧ Below w.heap.size w w' := by
  go_enter Try.func20, Try.ntmps20
  go_wp2_with (first
    | (go_at_call 22; refine (implPlaceOk_is cap hp (smp.here (by go_grown))).mono ?_; rintro e w3 ⟨rfl, hbw3⟩; have hbw : Below w.heap.size w w3 := below_two (by go_grown) hbw3; have kc := below_cells4 hbw3; have kf := below_frozens4 hbw3; have zl := hbw3.size; (try simp at zl); have p0 : w3.cell? ⟨w.heap.size, 0, none⟩ = some (.int .i64 wd) := (kc _ _ (by simp; try omega)).trans (by go_simp); have p1 : w3.cell? ⟨w.heap.size, 1, none⟩ = some (.int .i64 fl) := (kc _ _ (by simp; try omega)).trans (by go_simp); have p2 : w3.cell? ⟨w.heap.size, 2, none⟩ = some (.slice a xs.length cap) := (kc _ _ (by simp; try omega)).trans (by go_simp); have v0 : w3.cell? ⟨w.heap.size + 1, 0, none⟩ = some (.int .i64 0) := (kc _ _ (by simp; try omega)).trans (by go_simp); have v1 : w3.cell? ⟨w.heap.size + 1, 1, none⟩ = some (.int .i64 0) := (kc _ _ (by simp; try omega)).trans (by go_simp); have v2 : w3.cell? ⟨w.heap.size + 1, 2, none⟩ = some (.slice none 0 0) := (kc _ _ (by simp; try omega)).trans (by go_simp); have vz : ∀ o : Nat, w3.frozen? ⟨w.heap.size + 1, o, none⟩ = false := (fun o => (kf _ _ (by simp; try omega)).trans (by go_simp)); have pz : ∀ o : Nat, w3.frozen? ⟨w.heap.size, o, none⟩ = false := (fun o => (kf _ _ (by simp; try omega)).trans (by go_simp)); clear kc kf)
    | (go_at_call 55; refine (iWin_is hn _).mono ?_; rintro e wM ⟨rfl, hM⟩; have hM := hM.symm; subst hM))
  obtain ⟨y, ey, cs, fzy, sz, hbel, hon⟩ := over3 (.int .i64 0) (.int .i64 0) (.slice none 0 0) (g := w.heap.size + 1) v0 v1 v2
  rw [← ey]
  refine bodyPost_ret (results_two rfl _ _ _ [.int .i64 0, .int .i64 0, .slice none 0 0] rfl cs Try.underlying37 rfl (by kernel_rfl)) rfl ?_
  exact ⟨rfl, hbw.trans (hbel _ (by omega))⟩
set_option maxHeartbeats 4000000 in
theorem implQuit_no1 {wd fl id n : Int} {w : World} {a : Option Addr} (cap : Nat) {xs : List Int} (hp : plB wd fl xs = true) (hn : w10B n = true) (hh : hasI id xs = false) (smp : ISmp w.heap.size w a xs) : Calls Try.prog 20 #[.agg #[.int .i64 wd, .int .i64 fl, .slice a xs.length cap], .int .i64 id, .int .i64 n] w fun e w' => e = .returned (.tuple #[.agg #[.int .i64 0, .int .i64 0, .slice none 0 0], .bool false]) ∧ Below w.heap.size w w' := by
  obtain ⟨Z, zs, HZ, hz⟩ := seats_zero
  have hl := (pl_num hp).2.2
  have hMT := (pl_yes hp).2.2.2
  have hgd : Try.prog.eqGuardType Try.prog.depth 67 = false := by kernel_rfl
  have heq : ∀ w : World, (Op.equalIn 10000 67 (.agg (flatB (seatsR xs)).toArray) (.agg (flatB (seatsR xs)).toArray)).run Try.prog w = .ok true w := fun w => by rw [eq_rows w _ _ (seatsR_len hl) (seatsR_len hl)]; congr 1; exact decide_eq_true rfl
  go_enter Try.func20, Try.ntmps20
  go_upto_region 4 with (first
    | (go_at_call 22; refine (implPlaceOk_is cap hp (smp.here (by go_grown))).mono ?_; rintro e w3 ⟨rfl, hbw3⟩; have hbw : Below w.heap.size w w3 := below_two (by go_grown) hbw3; have kc := below_cells4 hbw3; have kf := below_frozens4 hbw3; have zl := hbw3.size; (try simp at zl); have p0 : w3.cell? ⟨w.heap.size, 0, none⟩ = some (.int .i64 wd) := (kc _ _ (by simp; try omega)).trans (by go_simp); have p1 : w3.cell? ⟨w.heap.size, 1, none⟩ = some (.int .i64 fl) := (kc _ _ (by simp; try omega)).trans (by go_simp); have p2 : w3.cell? ⟨w.heap.size, 2, none⟩ = some (.slice a xs.length cap) := (kc _ _ (by simp; try omega)).trans (by go_simp); have v0 : w3.cell? ⟨w.heap.size + 1, 0, none⟩ = some (.int .i64 0) := (kc _ _ (by simp; try omega)).trans (by go_simp); have v1 : w3.cell? ⟨w.heap.size + 1, 1, none⟩ = some (.int .i64 0) := (kc _ _ (by simp; try omega)).trans (by go_simp); have v2 : w3.cell? ⟨w.heap.size + 1, 2, none⟩ = some (.slice none 0 0) := (kc _ _ (by simp; try omega)).trans (by go_simp); have vz : ∀ o : Nat, w3.frozen? ⟨w.heap.size + 1, o, none⟩ = false := (fun o => (kf _ _ (by simp; try omega)).trans (by go_simp)); have pz : ∀ o : Nat, w3.frozen? ⟨w.heap.size, o, none⟩ = false := (fun o => (kf _ _ (by simp; try omega)).trans (by go_simp)); clear kc kf)
    | (go_at_call 55; refine (iWin_is hn _).mono ?_; rintro e wM ⟨rfl, hM⟩; have hM := hM.symm; subst hM)
    | (go_at_call 46; refine (seatsOf_any cap hl (smp.here hbw)).mono ?_; rintro e w5 ⟨rfl, hb5⟩; have qw5 := zl; have hbw : Below w.heap.size w w5 := below_two hbw hb5; have p0 := (hb5.cell (p := ⟨w.heap.size, 0, none⟩) (by show w.heap.size < _; omega)).trans p0; have p1 := (hb5.cell (p := ⟨w.heap.size, 1, none⟩) (by show w.heap.size < _; omega)).trans p1; have p2 := (hb5.cell (p := ⟨w.heap.size, 2, none⟩) (by show w.heap.size < _; omega)).trans p2; have v0 := (hb5.cell (p := ⟨w.heap.size + 1, 0, none⟩) (by show w.heap.size + 1 < _; omega)).trans v0; have v1 := (hb5.cell (p := ⟨w.heap.size + 1, 1, none⟩) (by show w.heap.size + 1 < _; omega)).trans v1; have v2 := (hb5.cell (p := ⟨w.heap.size + 1, 2, none⟩) (by show w.heap.size + 1 < _; omega)).trans v2; have vz : ∀ o : Nat, w5.frozen? ⟨w.heap.size + 1, o, none⟩ = false := fun o => (hb5.frozen (p := ⟨w.heap.size + 1, o, none⟩) (by show w.heap.size + 1 < _; omega)).trans (vz o); have zl : w.heap.size + 1 + 1 ≤ w5.heap.size := Nat.le_trans zl hb5.size; have pz : ∀ o : Nat, w5.frozen? ⟨w.heap.size, o, none⟩ = false := (fun o => (hb5.frozen (p := ⟨w.heap.size, o, none⟩) (by show w.heap.size < _; omega)).trans (pz o)))
    | (refine wpList_store_row rfl 67 (.tmp 8) (.tmp 21) rfl _ _ rfl rfl _ _ (heap_alloc_new _ _) (by rw [size_row (seatsR_len hl)]; exact info_seats) (by rw [HZ.out.1, size_row HZ.out.2.2, size_row (seatsR_len hl)]) (all_one _) ?_))
  obtain ⟨x5, hx5⟩ : ∃ x, x = (w5.alloc (.cells Z 67)).setRow w5.heap.size (flatB (seatsR xs)).toArray := ⟨_, rfl⟩
  obtain ⟨g1, eg1⟩ : ∃ b, b = w5.heap.size := ⟨_, rfl⟩
  rw [← hx5, ← eg1]
  have kx5 : Below w5.heap.size w5 x5 := by rw [hx5]; exact below_setRow (new_below _ _) (Nat.le_refl _) _
  have R1 : Hid (RowB x5 g1 (seatsR xs)) := by rw [hx5, eg1]; exact ⟨seatsR_len hl, setRow_heap _ _ _ _ _ _ (heap_alloc_new _ _)⟩
  have yg1 : w5.heap.size ≤ g1 := by omega
  have ug1 : g1 < x5.heap.size := by have := R1.out.z; exact this
  clear hx5 eg1
  have zqx5 := zl
  have hbw : Below w.heap.size w x5 := below_two hbw kx5
  have p0 := (kx5.cell (p := ⟨w.heap.size, 0, none⟩) (by show w.heap.size < _; omega)).trans p0
  have p1 := (kx5.cell (p := ⟨w.heap.size, 1, none⟩) (by show w.heap.size < _; omega)).trans p1
  have p2 := (kx5.cell (p := ⟨w.heap.size, 2, none⟩) (by show w.heap.size < _; omega)).trans p2
  have v0 := (kx5.cell (p := ⟨w.heap.size + 1, 0, none⟩) (by show w.heap.size + 1 < _; omega)).trans v0
  have v1 := (kx5.cell (p := ⟨w.heap.size + 1, 1, none⟩) (by show w.heap.size + 1 < _; omega)).trans v1
  have v2 := (kx5.cell (p := ⟨w.heap.size + 1, 2, none⟩) (by show w.heap.size + 1 < _; omega)).trans v2
  have vz : ∀ o : Nat, x5.frozen? ⟨w.heap.size + 1, o, none⟩ = false := fun o => (kx5.frozen (p := ⟨w.heap.size + 1, o, none⟩) (by show w.heap.size + 1 < _; omega)).trans (vz o)
  have zl : w.heap.size + 1 + 1 ≤ x5.heap.size := Nat.le_trans zl kx5.size
  have pz : ∀ o : Nat, x5.frozen? ⟨w.heap.size, o, none⟩ = false := (fun o => (kx5.frozen (p := ⟨w.heap.size, o, none⟩) (by show w.heap.size < _; omega)).trans (pz o))
  go_upto_region 5 with (first
    | (refine wpList_load_row rfl 67 (.tmp 8) rfl _ rfl _ _ _ _ R1.out.2 und_seats rfl (by rw [size_row R1.out.1]; exact info_seats) ?_)
    | (go_at_call 56; refine (without_no hMT hl hh).mono ?_; rintro e w6 ⟨rfl, hb6⟩; have qw6 := zl; have hbw : Below w.heap.size w w6 := below_two hbw hb6; have p0 := (hb6.cell (p := ⟨w.heap.size, 0, none⟩) (by show w.heap.size < _; omega)).trans p0; have p1 := (hb6.cell (p := ⟨w.heap.size, 1, none⟩) (by show w.heap.size < _; omega)).trans p1; have p2 := (hb6.cell (p := ⟨w.heap.size, 2, none⟩) (by show w.heap.size < _; omega)).trans p2; have v0 := (hb6.cell (p := ⟨w.heap.size + 1, 0, none⟩) (by show w.heap.size + 1 < _; omega)).trans v0; have v1 := (hb6.cell (p := ⟨w.heap.size + 1, 1, none⟩) (by show w.heap.size + 1 < _; omega)).trans v1; have v2 := (hb6.cell (p := ⟨w.heap.size + 1, 2, none⟩) (by show w.heap.size + 1 < _; omega)).trans v2; have vz : ∀ o : Nat, w6.frozen? ⟨w.heap.size + 1, o, none⟩ = false := fun o => (hb6.frozen (p := ⟨w.heap.size + 1, o, none⟩) (by show w.heap.size + 1 < _; omega)).trans (vz o); have zl : w.heap.size + 1 + 1 ≤ w6.heap.size := Nat.le_trans zl hb6.size; have pz : ∀ o : Nat, w6.frozen? ⟨w.heap.size, o, none⟩ = false := (fun o => (hb6.frozen (p := ⟨w.heap.size, o, none⟩) (by show w.heap.size < _; omega)).trans (pz o)); have R1 : Hid (RowB w6 g1 (seatsR xs)) := R1.out.next hb6)
    | (refine wpList_store_row rfl 67 (.tmp 9) (.tmp 24) rfl _ _ rfl rfl _ _ (heap_alloc_new _ _) (by rw [size_row (seatsR_len hl)]; exact info_seats) (by rw [HZ.out.1, size_row HZ.out.2.2, size_row (seatsR_len hl)]) (all_one _) ?_))
  obtain ⟨x6, hx6⟩ : ∃ x, x = (w6.alloc (.cells Z 67)).setRow w6.heap.size (flatB (seatsR xs)).toArray := ⟨_, rfl⟩
  obtain ⟨g2, eg2⟩ : ∃ b, b = w6.heap.size := ⟨_, rfl⟩
  rw [← hx6, ← eg2]
  have kx6 : Below w6.heap.size w6 x6 := by rw [hx6]; exact below_setRow (new_below _ _) (Nat.le_refl _) _
  have R2 : Hid (RowB x6 g2 (seatsR xs)) := by rw [hx6, eg2]; exact ⟨(seatsR_len hl), setRow_heap _ _ _ _ _ _ (heap_alloc_new _ _)⟩
  have yg2 : w6.heap.size ≤ g2 := by omega
  have ug2 : g2 < x6.heap.size := by have := R2.out.z; exact this
  clear hx6 eg2
  have zqx6 := zl
  have hbw : Below w.heap.size w x6 := below_two hbw kx6
  have p0 := (kx6.cell (p := ⟨w.heap.size, 0, none⟩) (by show w.heap.size < _; omega)).trans p0
  have p1 := (kx6.cell (p := ⟨w.heap.size, 1, none⟩) (by show w.heap.size < _; omega)).trans p1
  have p2 := (kx6.cell (p := ⟨w.heap.size, 2, none⟩) (by show w.heap.size < _; omega)).trans p2
  have v0 := (kx6.cell (p := ⟨w.heap.size + 1, 0, none⟩) (by show w.heap.size + 1 < _; omega)).trans v0
  have v1 := (kx6.cell (p := ⟨w.heap.size + 1, 1, none⟩) (by show w.heap.size + 1 < _; omega)).trans v1
  have v2 := (kx6.cell (p := ⟨w.heap.size + 1, 2, none⟩) (by show w.heap.size + 1 < _; omega)).trans v2
  have vz : ∀ o : Nat, x6.frozen? ⟨w.heap.size + 1, o, none⟩ = false := fun o => (kx6.frozen (p := ⟨w.heap.size + 1, o, none⟩) (by show w.heap.size + 1 < _; omega)).trans (vz o)
  have zl : w.heap.size + 1 + 1 ≤ x6.heap.size := Nat.le_trans zl kx6.size
  have pz : ∀ o : Nat, x6.frozen? ⟨w.heap.size, o, none⟩ = false := (fun o => (kx6.frozen (p := ⟨w.heap.size, o, none⟩) (by show w.heap.size < _; omega)).trans (pz o))
  have R1 : Hid (RowB x6 g1 (seatsR xs)) := R1.out.next kx6
  go_wp2_with (first
    | (refine wpList_load_row rfl 67 (.tmp 9) rfl _ rfl _ _ _ _ R2.out.2 und_seats rfl (by rw [size_row R2.out.1]; exact info_seats) ?_)
    | (refine wpList_load_row rfl 67 (.tmp 8) rfl _ rfl _ _ _ _ R1.out.2 und_seats rfl (by rw [size_row R1.out.1]; exact info_seats) ?_))
  obtain ⟨y, ey, cs, fzy, sz, hbel, hon⟩ := over3 (.int .i64 0) (.int .i64 0) (.slice none 0 0) (g := w.heap.size + 1) v0 v1 v2
  rw [← ey]
  refine bodyPost_ret (results_two rfl _ _ _ [.int .i64 0, .int .i64 0, .slice none 0 0] rfl cs Try.underlying37 rfl (by kernel_rfl)) rfl ?_
  exact ⟨rfl, hbw.trans (hbel _ (by omega))⟩
set_option maxHeartbeats 4000000 in
theorem implQuit_yes {wd fl id n : Int} {w : World} {a : Option Addr} (cap : Nat) {xs : List Int} (hp : plB wd fl xs = true) (hn : w10B n = true) (hh : hasI id xs = true) (smp : ISmp w.heap.size w a xs) : Calls Try.prog 20 #[.agg #[.int .i64 wd, .int .i64 fl, .slice a xs.length cap], .int .i64 id, .int .i64 n] w (AnsPT w (delI xs id) wd (max 0 (fl - n)) true) := by
  obtain ⟨Z, zs, HZ, hz⟩ := seats_zero
  have hl := (pl_num hp).2.2
  have hMT := (pl_yes hp).2.2.2
  have hgd : Try.prog.eqGuardType Try.prog.depth 67 = false := by kernel_rfl
  have hfl := (pl_num hp).2.1
  have hnn := w10_num hn
  obtain ⟨f1, hf1⟩ : ∃ f1 : Int, max 0 (fl - n) = f1 := ⟨_, rfl⟩
  rw [hf1]
  have HF1 : Hid (max 0 (fl - n) = f1) := hf1
  clear hf1
  have heq : ∀ w : World, (Op.equalIn 10000 67 (.agg (flatB (seatsR (delI xs id))).toArray) (.agg (flatB (seatsR xs)).toArray)).run Try.prog w = .ok false w := fun w => by rw [eq_rows w _ _ (seatsR_len (by have := delI_lt hh; omega)) (seatsR_len hl)]; congr 1; exact decide_eq_false (fun e => by have h := congrArg List.length (seatsR_inj e); have := delI_lt hh; omega)
  go_enter Try.func20, Try.ntmps20
  go_upto_region 4 with (first
    | (go_at_call 22; refine (implPlaceOk_is cap hp (smp.here (by go_grown))).mono ?_; rintro e w3 ⟨rfl, hbw3⟩; have hbw : Below w.heap.size w w3 := below_two (by go_grown) hbw3; have kc := below_cells4 hbw3; have kf := below_frozens4 hbw3; have zl := hbw3.size; (try simp at zl); have p0 : w3.cell? ⟨w.heap.size, 0, none⟩ = some (.int .i64 wd) := (kc _ _ (by simp; try omega)).trans (by go_simp); have p1 : w3.cell? ⟨w.heap.size, 1, none⟩ = some (.int .i64 fl) := (kc _ _ (by simp; try omega)).trans (by go_simp); have p2 : w3.cell? ⟨w.heap.size, 2, none⟩ = some (.slice a xs.length cap) := (kc _ _ (by simp; try omega)).trans (by go_simp); have v0 : w3.cell? ⟨w.heap.size + 1, 0, none⟩ = some (.int .i64 0) := (kc _ _ (by simp; try omega)).trans (by go_simp); have v1 : w3.cell? ⟨w.heap.size + 1, 1, none⟩ = some (.int .i64 0) := (kc _ _ (by simp; try omega)).trans (by go_simp); have v2 : w3.cell? ⟨w.heap.size + 1, 2, none⟩ = some (.slice none 0 0) := (kc _ _ (by simp; try omega)).trans (by go_simp); have vz : ∀ o : Nat, w3.frozen? ⟨w.heap.size + 1, o, none⟩ = false := (fun o => (kf _ _ (by simp; try omega)).trans (by go_simp)); have pz : ∀ o : Nat, w3.frozen? ⟨w.heap.size, o, none⟩ = false := (fun o => (kf _ _ (by simp; try omega)).trans (by go_simp)); clear kc kf)
    | (go_at_call 55; refine (iWin_is hn _).mono ?_; rintro e wM ⟨rfl, hM⟩; have hM := hM.symm; subst hM)
    | (go_at_call 46; refine (seatsOf_any cap hl (smp.here hbw)).mono ?_; rintro e w5 ⟨rfl, hb5⟩; have qw5 := zl; have hbw : Below w.heap.size w w5 := below_two hbw hb5; have p0 := (hb5.cell (p := ⟨w.heap.size, 0, none⟩) (by show w.heap.size < _; omega)).trans p0; have p1 := (hb5.cell (p := ⟨w.heap.size, 1, none⟩) (by show w.heap.size < _; omega)).trans p1; have p2 := (hb5.cell (p := ⟨w.heap.size, 2, none⟩) (by show w.heap.size < _; omega)).trans p2; have v0 := (hb5.cell (p := ⟨w.heap.size + 1, 0, none⟩) (by show w.heap.size + 1 < _; omega)).trans v0; have v1 := (hb5.cell (p := ⟨w.heap.size + 1, 1, none⟩) (by show w.heap.size + 1 < _; omega)).trans v1; have v2 := (hb5.cell (p := ⟨w.heap.size + 1, 2, none⟩) (by show w.heap.size + 1 < _; omega)).trans v2; have vz : ∀ o : Nat, w5.frozen? ⟨w.heap.size + 1, o, none⟩ = false := fun o => (hb5.frozen (p := ⟨w.heap.size + 1, o, none⟩) (by show w.heap.size + 1 < _; omega)).trans (vz o); have zl : w.heap.size + 1 + 1 ≤ w5.heap.size := Nat.le_trans zl hb5.size; have pz : ∀ o : Nat, w5.frozen? ⟨w.heap.size, o, none⟩ = false := (fun o => (hb5.frozen (p := ⟨w.heap.size, o, none⟩) (by show w.heap.size < _; omega)).trans (pz o)))
    | (refine wpList_store_row rfl 67 (.tmp 8) (.tmp 21) rfl _ _ rfl rfl _ _ (heap_alloc_new _ _) (by rw [size_row (seatsR_len hl)]; exact info_seats) (by rw [HZ.out.1, size_row HZ.out.2.2, size_row (seatsR_len hl)]) (all_one _) ?_))
  obtain ⟨x5, hx5⟩ : ∃ x, x = (w5.alloc (.cells Z 67)).setRow w5.heap.size (flatB (seatsR xs)).toArray := ⟨_, rfl⟩
  obtain ⟨g1, eg1⟩ : ∃ b, b = w5.heap.size := ⟨_, rfl⟩
  rw [← hx5, ← eg1]
  have kx5 : Below w5.heap.size w5 x5 := by rw [hx5]; exact below_setRow (new_below _ _) (Nat.le_refl _) _
  have R1 : Hid (RowB x5 g1 (seatsR xs)) := by rw [hx5, eg1]; exact ⟨seatsR_len hl, setRow_heap _ _ _ _ _ _ (heap_alloc_new _ _)⟩
  have yg1 : w5.heap.size ≤ g1 := by omega
  have ug1 : g1 < x5.heap.size := by have := R1.out.z; exact this
  clear hx5 eg1
  have zqx5 := zl
  have hbw : Below w.heap.size w x5 := below_two hbw kx5
  have p0 := (kx5.cell (p := ⟨w.heap.size, 0, none⟩) (by show w.heap.size < _; omega)).trans p0
  have p1 := (kx5.cell (p := ⟨w.heap.size, 1, none⟩) (by show w.heap.size < _; omega)).trans p1
  have p2 := (kx5.cell (p := ⟨w.heap.size, 2, none⟩) (by show w.heap.size < _; omega)).trans p2
  have v0 := (kx5.cell (p := ⟨w.heap.size + 1, 0, none⟩) (by show w.heap.size + 1 < _; omega)).trans v0
  have v1 := (kx5.cell (p := ⟨w.heap.size + 1, 1, none⟩) (by show w.heap.size + 1 < _; omega)).trans v1
  have v2 := (kx5.cell (p := ⟨w.heap.size + 1, 2, none⟩) (by show w.heap.size + 1 < _; omega)).trans v2
  have vz : ∀ o : Nat, x5.frozen? ⟨w.heap.size + 1, o, none⟩ = false := fun o => (kx5.frozen (p := ⟨w.heap.size + 1, o, none⟩) (by show w.heap.size + 1 < _; omega)).trans (vz o)
  have zl : w.heap.size + 1 + 1 ≤ x5.heap.size := Nat.le_trans zl kx5.size
  have pz : ∀ o : Nat, x5.frozen? ⟨w.heap.size, o, none⟩ = false := (fun o => (kx5.frozen (p := ⟨w.heap.size, o, none⟩) (by show w.heap.size < _; omega)).trans (pz o))
  go_upto_region 5 with (first
    | (refine wpList_load_row rfl 67 (.tmp 8) rfl _ rfl _ _ _ _ R1.out.2 und_seats rfl (by rw [size_row R1.out.1]; exact info_seats) ?_)
    | (go_at_call 56; refine (without_yes hMT hl hh).mono ?_; rintro e w6 ⟨rfl, hb6⟩; have qw6 := zl; have hbw : Below w.heap.size w w6 := below_two hbw hb6; have p0 := (hb6.cell (p := ⟨w.heap.size, 0, none⟩) (by show w.heap.size < _; omega)).trans p0; have p1 := (hb6.cell (p := ⟨w.heap.size, 1, none⟩) (by show w.heap.size < _; omega)).trans p1; have p2 := (hb6.cell (p := ⟨w.heap.size, 2, none⟩) (by show w.heap.size < _; omega)).trans p2; have v0 := (hb6.cell (p := ⟨w.heap.size + 1, 0, none⟩) (by show w.heap.size + 1 < _; omega)).trans v0; have v1 := (hb6.cell (p := ⟨w.heap.size + 1, 1, none⟩) (by show w.heap.size + 1 < _; omega)).trans v1; have v2 := (hb6.cell (p := ⟨w.heap.size + 1, 2, none⟩) (by show w.heap.size + 1 < _; omega)).trans v2; have vz : ∀ o : Nat, w6.frozen? ⟨w.heap.size + 1, o, none⟩ = false := fun o => (hb6.frozen (p := ⟨w.heap.size + 1, o, none⟩) (by show w.heap.size + 1 < _; omega)).trans (vz o); have zl : w.heap.size + 1 + 1 ≤ w6.heap.size := Nat.le_trans zl hb6.size; have pz : ∀ o : Nat, w6.frozen? ⟨w.heap.size, o, none⟩ = false := (fun o => (hb6.frozen (p := ⟨w.heap.size, o, none⟩) (by show w.heap.size < _; omega)).trans (pz o)); have R1 : Hid (RowB w6 g1 (seatsR xs)) := R1.out.next hb6)
    | (refine wpList_store_row rfl 67 (.tmp 9) (.tmp 24) rfl _ _ rfl rfl _ _ (heap_alloc_new _ _) (by rw [size_row (seatsR_len (by have := delI_lt hh; omega))]; exact info_seats) (by rw [HZ.out.1, size_row HZ.out.2.2, size_row (seatsR_len (by have := delI_lt hh; omega))]) (all_one _) ?_))
  obtain ⟨x6, hx6⟩ : ∃ x, x = (w6.alloc (.cells Z 67)).setRow w6.heap.size (flatB (seatsR (delI xs id))).toArray := ⟨_, rfl⟩
  obtain ⟨g2, eg2⟩ : ∃ b, b = w6.heap.size := ⟨_, rfl⟩
  rw [← hx6, ← eg2]
  have kx6 : Below w6.heap.size w6 x6 := by rw [hx6]; exact below_setRow (new_below _ _) (Nat.le_refl _) _
  have R2 : Hid (RowB x6 g2 (seatsR (delI xs id))) := by rw [hx6, eg2]; exact ⟨(seatsR_len (by have := delI_lt hh; omega)), setRow_heap _ _ _ _ _ _ (heap_alloc_new _ _)⟩
  have yg2 : w6.heap.size ≤ g2 := by omega
  have ug2 : g2 < x6.heap.size := by have := R2.out.z; exact this
  clear hx6 eg2
  have zqx6 := zl
  have hbw : Below w.heap.size w x6 := below_two hbw kx6
  have p0 := (kx6.cell (p := ⟨w.heap.size, 0, none⟩) (by show w.heap.size < _; omega)).trans p0
  have p1 := (kx6.cell (p := ⟨w.heap.size, 1, none⟩) (by show w.heap.size < _; omega)).trans p1
  have p2 := (kx6.cell (p := ⟨w.heap.size, 2, none⟩) (by show w.heap.size < _; omega)).trans p2
  have v0 := (kx6.cell (p := ⟨w.heap.size + 1, 0, none⟩) (by show w.heap.size + 1 < _; omega)).trans v0
  have v1 := (kx6.cell (p := ⟨w.heap.size + 1, 1, none⟩) (by show w.heap.size + 1 < _; omega)).trans v1
  have v2 := (kx6.cell (p := ⟨w.heap.size + 1, 2, none⟩) (by show w.heap.size + 1 < _; omega)).trans v2
  have vz : ∀ o : Nat, x6.frozen? ⟨w.heap.size + 1, o, none⟩ = false := fun o => (kx6.frozen (p := ⟨w.heap.size + 1, o, none⟩) (by show w.heap.size + 1 < _; omega)).trans (vz o)
  have zl : w.heap.size + 1 + 1 ≤ x6.heap.size := Nat.le_trans zl kx6.size
  have pz : ∀ o : Nat, x6.frozen? ⟨w.heap.size, o, none⟩ = false := (fun o => (kx6.frozen (p := ⟨w.heap.size, o, none⟩) (by show w.heap.size < _; omega)).trans (pz o))
  have R1 : Hid (RowB x6 g1 (seatsR xs)) := R1.out.next kx6
  go_upto_region 8 with (first
    | (refine wpList_load_row rfl 67 (.tmp 9) rfl _ rfl _ _ _ _ R2.out.2 und_seats rfl (by rw [size_row R2.out.1]; exact info_seats) ?_)
    | (refine wpList_load_row rfl 67 (.tmp 8) rfl _ rfl _ _ _ _ R1.out.2 und_seats rfl (by rw [size_row R1.out.1]; exact info_seats) ?_)
    | (go_at_call 48; refine (members_any R2.out.1).mono ?_; rintro e w7 ⟨a5, n5, c5, rfl, iv7, hb7⟩; have qw7 := zl; have hbw : Below w.heap.size w w7 := below_two hbw hb7; have p0 := (hb7.cell (p := ⟨w.heap.size, 0, none⟩) (by show w.heap.size < _; omega)).trans p0; have p1 := (hb7.cell (p := ⟨w.heap.size, 1, none⟩) (by show w.heap.size < _; omega)).trans p1; have p2 := (hb7.cell (p := ⟨w.heap.size, 2, none⟩) (by show w.heap.size < _; omega)).trans p2; have v0 := (hb7.cell (p := ⟨w.heap.size + 1, 0, none⟩) (by show w.heap.size + 1 < _; omega)).trans v0; have v1 := (hb7.cell (p := ⟨w.heap.size + 1, 1, none⟩) (by show w.heap.size + 1 < _; omega)).trans v1; have v2 := (hb7.cell (p := ⟨w.heap.size + 1, 2, none⟩) (by show w.heap.size + 1 < _; omega)).trans v2; have vz : ∀ o : Nat, w7.frozen? ⟨w.heap.size + 1, o, none⟩ = false := fun o => (hb7.frozen (p := ⟨w.heap.size + 1, o, none⟩) (by show w.heap.size + 1 < _; omega)).trans (vz o); have zl : w.heap.size + 1 + 1 ≤ w7.heap.size := Nat.le_trans zl hb7.size; have pz : ∀ o : Nat, w7.frozen? ⟨w.heap.size, o, none⟩ = false := (fun o => (hb7.frozen (p := ⟨w.heap.size, o, none⟩) (by show w.heap.size < _; omega)).trans (pz o)); have iv7 : IV w7 _ (.slice a5 n5 c5) (delI xs id) := (by have h := iv7; rw [memb_seats] at h; exact h)))
  obtain ⟨x7, hx7⟩ : ∃ x, x = w7.setCell ⟨w.heap.size, 2, none⟩ (.slice a5 n5 c5) := ⟨_, rfl⟩
  rw [← hx7]
  have oX : Only w.heap.size w7 x7 := by rw [hx7]; exact ((Only.refl _ w7).setCell (p := ⟨w.heap.size, 2, none⟩) rfl _)
  have p0 : x7.cell? ⟨w.heap.size, 0, none⟩ = some (.int .i64 wd) := by rw [hx7]; exact (set_other4 (by decide)).trans p0
  have p1 : x7.cell? ⟨w.heap.size, 1, none⟩ = some (.int .i64 fl) := by rw [hx7]; exact (set_other4 (by decide)).trans p1
  have p2 : x7.cell? ⟨w.heap.size, 2, none⟩ = some (.slice a5 n5 c5) := by rw [hx7]; exact set_same4 _ p2
  have v0 := (oX.cell (p := ⟨w.heap.size + 1, 0, none⟩) (by show w.heap.size + 1 < _; omega) (by show w.heap.size + 1 ≠ _; omega)).trans v0
  have v1 := (oX.cell (p := ⟨w.heap.size + 1, 1, none⟩) (by show w.heap.size + 1 < _; omega) (by show w.heap.size + 1 ≠ _; omega)).trans v1
  have v2 := (oX.cell (p := ⟨w.heap.size + 1, 2, none⟩) (by show w.heap.size + 1 < _; omega) (by show w.heap.size + 1 ≠ _; omega)).trans v2
  have vz : ∀ o : Nat, x7.frozen? ⟨w.heap.size + 1, o, none⟩ = false := fun o => (oX.frozen (p := ⟨w.heap.size + 1, o, none⟩) (by show w.heap.size + 1 < _; omega) (by show w.heap.size + 1 ≠ _; omega)).trans (vz o)
  have hbw : Below w.heap.size w x7 := hbw.trans (oX.below (Nat.le_refl _) (by omega))
  have iv8 := iv7.onlyO (OnlyO.of_only oX) (fun g hg e => by have := (iv7.own hg).1; injection e with e; omega)
  have zl := Nat.le_trans zl oX.size
  clear hx7 oX
  go_wp2_with (first
    | (go_at_call 57; refine (less_any _ a5 n5 c5 HF1.out ⟨hfl, hnn⟩).mono ?_; rintro e w8 ⟨rfl, hb8⟩; have z8 := zl; have iv8 := iv8.next hb8; have hbw : Below w.heap.size w w8 := below_two hbw hb8; have p0 := (hb8.cell (p := ⟨w.heap.size, 0, none⟩) (by show w.heap.size < _; omega)).trans p0; have p1 := (hb8.cell (p := ⟨w.heap.size, 1, none⟩) (by show w.heap.size < _; omega)).trans p1; have p2 := (hb8.cell (p := ⟨w.heap.size, 2, none⟩) (by show w.heap.size < _; omega)).trans p2; have v0 := (hb8.cell (p := ⟨w.heap.size + 1, 0, none⟩) (by show w.heap.size + 1 < _; omega)).trans v0; have v1 := (hb8.cell (p := ⟨w.heap.size + 1, 1, none⟩) (by show w.heap.size + 1 < _; omega)).trans v1; have v2 := (hb8.cell (p := ⟨w.heap.size + 1, 2, none⟩) (by show w.heap.size + 1 < _; omega)).trans v2; have vz : ∀ o : Nat, w8.frozen? ⟨w.heap.size + 1, o, none⟩ = false := fun o => (hb8.frozen (p := ⟨w.heap.size + 1, o, none⟩) (by show w.heap.size + 1 < _; omega)).trans (vz o); have zl : w.heap.size + 1 + 1 ≤ w8.heap.size := Nat.le_trans zl hb8.size))
  obtain ⟨y, ey, cs, fzy, sz, hbel, hon⟩ := over3 (.int .i64 wd) (.int .i64 f1) (.slice a5 n5 c5) (g := w.heap.size + 1) v0 v1 v2
  rw [← ey]
  refine bodyPost_ret (results_two rfl _ _ _ [.int .i64 wd, .int .i64 f1, .slice a5 n5 c5] rfl cs Try.underlying37 rfl (by kernel_rfl)) rfl ?_
  exact ⟨_, _, _, rfl, (iv8.onlyO (OnlyO.of_only hon) (fun g hg e => by have := (iv8.own hg).1; injection e with e; omega)).lower (by omega), hbw.trans (hbel _ (by omega))⟩
end Go.Proofs.Ytoeiheccmpjclaf

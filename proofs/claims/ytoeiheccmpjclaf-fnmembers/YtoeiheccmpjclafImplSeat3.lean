/- What impl's seats.with and seats.without answer. -/
import Derived.Test.YtoeiheccmpjclafImplSeat2
import Derived.Test.YtoeiheccmpjclafLate
import Derived.Deep.CutRange
import Derived.BigQuiet
import Derived.Deep.QuietTactic
namespace Go.Proofs.Ytoeiheccmpjclaf
open Go.ChangeShapes Go.WideShapes Go.ChangeAt Go.RowKit
set_option maxRecDepth 100000
set_option linter.unusedVariables false
set_option linter.unusedSimpArgs false

theorem sliceB_run {g d : Nat} {z : Int} (hz : z = (d : Int)) (hd : d ≤ 50) (w : World) : (Instr.sliceAt 67 (.pointer (some ⟨g, 0, none⟩)) (some (.int .i64 z)) none none).run Try.prog w = .ok (.slice (some (if 50 = d then (⟨g, 0, none⟩ : Addr) else ⟨g, d * 2, none⟩)) (50 - d) (50 - d)) w := by
  subst hz
  have h0 : (0 : Int) ≤ (d : Int) := by omega
  have h1 : (d : Int) ≤ 50 := by omega
  have hs : (sizeOf 65).run Try.prog w = .ok 2 w := by
    obtain ⟨i0, hi, _, hz1, _⟩ := info_parts info_seat
    simp [sizeOf, typeInfo, hi, hz1]
  have e2 : (⟨g, 0, none⟩ : Addr).add (d * 2) = ⟨g, d * 2, none⟩ := by unfold Addr.add; split <;> simp_all
  simp [Instr.sliceAt, Instr.sureAddr, asAddr, Instr.sliceBounds, Instr.sliceBound, asIntOf, run_underlying und_seats, h0, h1, hd, hs, e2]
theorem fst_yes {f : Int × Bool → Bool} {ps : List (Int × Bool)} {z : Int} (h : FstIs f ps z) (k : Nat) (hk : k < ps.length) (hf : f ps[k] = true) : ∃ (k : Nat) (h : k < ps.length), z = k ∧ f ps[k] = true ∧ ∀ m (h : m < ps.length), m < k → f ps[m] = false := by
  rcases h with ⟨_, h⟩ | h
  · have := h k hk
    rw [hf] at this
    cases this
  · exact h
set_option maxHeartbeats 4000000 in
theorem with_has {w : World} {id : Int} {xs : List Int} (hM : MemTo xs xs.length) (hl : xs.length < 50) (hh : hasI id xs = true) : Calls Try.prog 47 #[.agg (flatB (seatsR xs)).toArray, .int .i64 id] w (SeatPost w (seatsR xs)) := by
  obtain ⟨Z, zs, HZ, hz⟩ := seats_zero
  have hmf : ∀ (fn : Fn) (first cap : Array Value) (w : World), (Instr.makeFunc fn first cap).run Try.prog w = .ok (.func fn first cap) w := fun _ _ _ _ => rfl
  have hl50 : (seatsR xs).length = 50 := seatsR_len (by omega)
  have HL : Hid ((seatsR xs).length = 50) := hl50
  obtain ⟨R, hR⟩ : ∃ R : Array Value, R = (flatB (seatsR xs)).toArray := ⟨_, rfl⟩
  have HR : Hid (R = (flatB (seatsR xs)).toArray) := hR
  rw [← hR]
  clear hR hl50
  go_enter Try.func47, Try.ntmps47
  go_upto_region 2 with (fail)
  obtain ⟨x, hx⟩ : ∃ x, x = (((w.alloc (.cells R 67)).alloc (.cells #[.int .i64 id] 2)).alloc (.cells Z 67)).alloc (.cells #[.int .i64 id, .bool true] 65) := ⟨_, rfl⟩
  rw [← hx]
  have hbx : Below w.heap.size w x := by rw [hx]; go_grown
  have hxs : w.heap.size + 3 < x.heap.size := by rw [hx]; simp
  have rp : RowB x w.heap.size (seatsR xs) := by rw [hx, HR.out]; exact (rowB_new w HL.out).next (by go_grown)
  have rz : RowB x (w.heap.size + 2) zs := by
    have h := rowB_new ((w.alloc (.cells R 67)).alloc (.cells #[.int .i64 id] 2)) HZ.out.2.2
    rw [← HZ.out.1, show ((w.alloc (.cells R 67)).alloc (.cells #[.int .i64 id] 2)).heap.size = w.heap.size + 2 by simp] at h
    rw [hx]
    exact h.next (by go_grown)
  have i0 : x.cell? ⟨w.heap.size + 1, 0, none⟩ = some (.int .i64 id) := by rw [hx]; go_simp
  have d0 : x.cell? ⟨w.heap.size + 1 + 1 + 1, 0, none⟩ = some (.int .i64 id) := by rw [hx]; go_simp
  have d1 : x.cell? ⟨w.heap.size + 1 + 1 + 1, 1, none⟩ = some (.bool true) := by rw [hx]; go_simp
  clear hx hz HZ
  have hix := ixf_any (c := w.heap.size + 1) rp i0 (by omega)
  have RP : Hid (RowB x w.heap.size (seatsR xs)) := rp
  have RZ : Hid (RowB x (w.heap.size + 2) zs) := rz
  clear rp rz i0
  go_upto_region 3 with (first
    | (go_at_call 74; refine hix.mono ?_; clear hix; rintro e w4 ⟨z, rfl, hz, hb4⟩))
  obtain ⟨k, hk, rfl, hk1, hk2⟩ := fst_yes hz xs.length (by rw [HL.out]; omega) (by rw [seatsR_out (Nat.le_refl _)]; rfl)
  clear hz
  obtain ⟨hkn, hbef, hat⟩ := find_seat (by omega) hk hk1 hk2
  have RP : Hid (RowB w4 w.heap.size (seatsR xs)) := RP.out.next hb4
  have RZ : Hid (RowB w4 (w.heap.size + 2) zs) := RZ.out.next hb4
  have z4 := hb4.size
  have d0 := (hb4.cell (p := ⟨w.heap.size + 1 + 1 + 1, 0, none⟩) (by show w.heap.size + 1 + 1 + 1 < _; omega)).trans d0
  have d1 := (hb4.cell (p := ⟨w.heap.size + 1 + 1 + 1, 1, none⟩) (by show w.heap.size + 1 + 1 + 1 < _; omega)).trans d1
  have hbw : Below w.heap.size w w4 := below_two hbx hb4
  have hk5 : (k : Int) < 50 := by have := HL.out; omega
  have hk0 : (0 : Int) ≤ (k : Int) := by omega
  have c0 := RP.out.c0 k hk
  have c1 := RP.out.c1 k hk
  obtain ⟨hkl, hke⟩ := (find_has hM hbef hat).1 hh
  rw [seatsR_in hkl, hke] at c0 c1
  clear hbef hat hk1 hk2 hk hkl hke
  go_quiet (fail)
  have RP9 : Hid (RowB (w4.drewN nq) w.heap.size (seatsR xs)) := RP.out.next (below_drews (Below.refl _ _) _)
  have RZ9 : Hid (RowB (w4.drewN nq) (w.heap.size + 2) zs) := RZ.out.next (below_drews (Below.refl _ _) _)
  obtain ⟨x9, hx9⟩ : ∃ x, x = w4.drewN nq := ⟨_, rfl⟩
  have hb9 : Below w.heap.size w x9 := by rw [hx9]; exact below_drews hbw _
  rw [← hx9] at RP9 RZ9 ⊢
  clear hx9
  go_wp2_with (first
    | (refine wpList_load_row rfl 67 (.tmp 2) rfl (w.heap.size) rfl _ _ _ _ RP9.out.2 und_seats rfl (by rw [size_row RP9.out.1]; exact info_seats) ?_)
    | (refine wpList_store_row rfl 67 (.tmp 4) (.tmp 26) rfl (w.heap.size + 2) _ rfl rfl _ _ RZ9.out.2 (by rw [size_row RP9.out.1]; exact info_seats) (by rw [size_row RZ9.out.1, size_row RP9.out.1]) (all_one _) ?_))
  obtain ⟨R8, o8⟩ := rowB_set RZ9.out RP9.out.1
  refine bodyPost_ret (results_cell_row rfl _ _ (w.heap.size + 2) _ _ _ _ rfl R8.2 und_seats rfl (by rw [size_row R8.1]; exact info_seats)) rfl ?_
  exact ⟨rfl, hb9.trans (o8.below (by omega) hb9.size)⟩
set_option maxHeartbeats 4000000 in
theorem with_new {w : World} {id : Int} {xs : List Int} (hM : MemTo xs xs.length) (hl : xs.length < 50) (hh : hasI id xs = false) : Calls Try.prog 47 #[.agg (flatB (seatsR xs)).toArray, .int .i64 id] w (SeatPost w (seatsR (insI xs id))) := by
  obtain ⟨Z, zs, HZ, hz⟩ := seats_zero
  have hmf : ∀ (fn : Fn) (first cap : Array Value) (w : World), (Instr.makeFunc fn first cap).run Try.prog w = .ok (.func fn first cap) w := fun _ _ _ _ => rfl
  have hl50 : (seatsR xs).length = 50 := seatsR_len (by omega)
  have HL : Hid ((seatsR xs).length = 50) := hl50
  obtain ⟨R, hR⟩ : ∃ R : Array Value, R = (flatB (seatsR xs)).toArray := ⟨_, rfl⟩
  have HR : Hid (R = (flatB (seatsR xs)).toArray) := hR
  rw [← hR]
  clear hR hl50
  go_enter Try.func47, Try.ntmps47
  go_upto_region 2 with (fail)
  obtain ⟨x, hx⟩ : ∃ x, x = (((w.alloc (.cells R 67)).alloc (.cells #[.int .i64 id] 2)).alloc (.cells Z 67)).alloc (.cells #[.int .i64 id, .bool true] 65) := ⟨_, rfl⟩
  rw [← hx]
  have hbx : Below w.heap.size w x := by rw [hx]; go_grown
  have hxs : w.heap.size + 3 < x.heap.size := by rw [hx]; simp
  have rp : RowB x w.heap.size (seatsR xs) := by rw [hx, HR.out]; exact (rowB_new w HL.out).next (by go_grown)
  have rz : RowB x (w.heap.size + 2) zs := by
    have h := rowB_new ((w.alloc (.cells R 67)).alloc (.cells #[.int .i64 id] 2)) HZ.out.2.2
    rw [← HZ.out.1, show ((w.alloc (.cells R 67)).alloc (.cells #[.int .i64 id] 2)).heap.size = w.heap.size + 2 by simp] at h
    rw [hx]
    exact h.next (by go_grown)
  have i0 : x.cell? ⟨w.heap.size + 1, 0, none⟩ = some (.int .i64 id) := by rw [hx]; go_simp
  have d0 : x.cell? ⟨w.heap.size + 1 + 1 + 1, 0, none⟩ = some (.int .i64 id) := by rw [hx]; go_simp
  have d1 : x.cell? ⟨w.heap.size + 1 + 1 + 1, 1, none⟩ = some (.bool true) := by rw [hx]; go_simp
  clear hx hz HZ
  have hix := ixf_any (c := w.heap.size + 1) rp i0 (by omega)
  have RP : Hid (RowB x w.heap.size (seatsR xs)) := rp
  have RZ : Hid (RowB x (w.heap.size + 2) zs) := rz
  clear rp rz i0
  go_upto_region 3 with (first
    | (go_at_call 74; refine hix.mono ?_; clear hix; rintro e w4 ⟨z, rfl, hz, hb4⟩))
  obtain ⟨k, hk, rfl, hk1, hk2⟩ := fst_yes hz xs.length (by rw [HL.out]; omega) (by rw [seatsR_out (Nat.le_refl _)]; rfl)
  clear hz
  obtain ⟨hkn, hbef, hat⟩ := find_seat (by omega) hk hk1 hk2
  have RP : Hid (RowB w4 w.heap.size (seatsR xs)) := RP.out.next hb4
  have RZ : Hid (RowB w4 (w.heap.size + 2) zs) := RZ.out.next hb4
  have z4 := hb4.size
  have d0 := (hb4.cell (p := ⟨w.heap.size + 1 + 1 + 1, 0, none⟩) (by show w.heap.size + 1 + 1 + 1 < _; omega)).trans d0
  have d1 := (hb4.cell (p := ⟨w.heap.size + 1 + 1 + 1, 1, none⟩) (by show w.heap.size + 1 + 1 + 1 < _; omega)).trans d1
  have hbw : Below w.heap.size w w4 := below_two hbx hb4
  have hk5 : (k : Int) < 50 := by have := HL.out; omega
  have hk0 : (0 : Int) ≤ (k : Int) := by omega
  have c0 := RP.out.c0 k hk
  have c1 := RP.out.c1 k hk
  have HINS : Hid ((splice (seatsR xs) (k + 1) (((seatsR xs).drop k).take (49 - k))).set k (id, true) = seatsR (insI xs id)) := by
    show _ = _
    rw [seatsR_ins hkn hl, insI_at hkn hbef (fun h => by have := hat h; omega)]
  have hne : ¬ ((seatsR xs)[k].1 = id ∧ (seatsR xs)[k].2 = true) := by
    rintro ⟨e1, e2⟩
    have : ∃ h : k < xs.length, xs[k] = id := by
      rcases Nat.lt_or_ge k xs.length with h | h
      · rw [seatsR_in h] at e1
        exact ⟨h, e1⟩
      · rw [seatsR_out h] at e2
        cases e2
    rw [(find_has hM hbef hat).2 this] at hh
    cases hh
  obtain ⟨y, hy⟩ : ∃ y, (seatsR xs)[k].1 = y := ⟨_, rfl⟩
  obtain ⟨f, hf⟩ : ∃ f, (seatsR xs)[k].2 = f := ⟨_, rfl⟩
  rw [hy, hf] at hne
  rw [hy] at c0
  rw [hf] at c1
  have HK : Hid (k < (seatsR xs).length) := hk
  clear hy hf hbef hat hk1 hk2 hk
  go_cut [16] from 12 to 16 (fun s wc => s = .bool true ∧ Below w4.heap.size w4 wc)
  case first =>
    by_cases h1 : y = id
    · subst h1
      cases f
      · go_quiet (fail)
        go_wp2
        go_meet
        exact ⟨rfl, below_drews (Below.refl _ _) _⟩
      · exact absurd ⟨rfl, rfl⟩ hne
    · have h2 : (y == id) = false := beq_eq_false_iff_ne.2 h1
      clear hne
      go_quiet (fail)
      go_wp2
      go_meet
      exact ⟨rfl, below_drews (Below.refl _ _) _⟩
  case rest =>
    obtain ⟨rfl, hbc⟩ := hcut
    have RPc : Hid (RowB wc w.heap.size (seatsR xs)) := RP.out.next hbc
    have RZc : Hid (RowB wc (w.heap.size + 2) zs) := RZ.out.next hbc
    have d0 := (hbc.cell (p := ⟨w.heap.size + 1 + 1 + 1, 0, none⟩) (by show w.heap.size + 1 + 1 + 1 < _; omega)).trans d0
    have d1 := (hbc.cell (p := ⟨w.heap.size + 1 + 1 + 1, 1, none⟩) (by show w.heap.size + 1 + 1 + 1 < _; omega)).trans d1
    have hbw := below_two hbw hbc
    have zc := hbc.size
    clear c0 c1 hne hbc
    have hk50 : k < 50 := by omega
    have HS1 : Hid (∀ w, (Instr.sliceAt 67 (.pointer (some ⟨w4.heap.size, 0, none⟩)) (some (.int .i64 0)) none none).run Try.prog w = (Instr.sliceAt 67 (.pointer (some ⟨w4.heap.size, 0, none⟩)) (some (.int .i64 0)) none none).run Try.prog w) := fun _ => rfl
    obtain ⟨X1, hX1⟩ : ∃ X : Addr, (if 50 = k + 1 then (⟨w.heap.size, 0, none⟩ : Addr) else ⟨w.heap.size, (k + 1) * 2, none⟩) = X := ⟨_, rfl⟩
    obtain ⟨X2, hX2⟩ : ∃ X : Addr, (if 50 = k then (⟨w.heap.size, 0, none⟩ : Addr) else ⟨w.heap.size, k * 2, none⟩) = X := ⟨_, rfl⟩
    have HD1 : Hid (∀ w', (Instr.sliceAt 67 (.pointer (some ⟨w.heap.size, 0, none⟩)) (some (.int .i64 ((k : Int) + 1))) none none).run Try.prog w' = .ok (.slice (some X1) (50 - (k + 1)) (50 - (k + 1))) w') := fun w' => by rw [← hX1]; exact sliceB_run (by omega) (by omega) w'
    have HD2 : Hid (∀ w', (Instr.sliceAt 67 (.pointer (some ⟨w.heap.size, 0, none⟩)) (some (.int .i64 (k : Int))) none none).run Try.prog w' = .ok (.slice (some X2) (50 - k) (50 - k)) w') := fun w' => by rw [← hX2]; exact sliceB_run rfl (by omega) w'
    have RPd : RowB wc.drew w.heap.size (seatsR xs) := RPc.out.next (Below.refl _ _).drew
    obtain ⟨w5, hcp, R5, o5⟩ := copyB RPd 3 (k + 1) k (49 - k) (50 - (k + 1)) (50 - k) X1 X2 (fun h => by rw [← hX1, if_neg (by omega)]) (fun h => by rw [← hX2, if_neg (by omega)]) (by omega) (by show 49 - k = min (50 - k) (50 - (k + 1)); omega)
    clear RPd hX1 hX2 HS1
    have R5 : Hid (RowB w5 w.heap.size (splice (seatsR xs) (k + 1) (((seatsR xs).drop k).take (49 - k)))) := R5
    have o5 : Only w.heap.size wc w5 := Only.trans (Only.of_below (Below.refl _ _).drew) o5
    obtain ⟨M1, hM1⟩ : ∃ M, M = 50 - (k + 1) := ⟨_, rfl⟩
    obtain ⟨M2, hM2⟩ : ∃ M, M = 50 - k := ⟨_, rfl⟩
    rw [← hM1] at HD1 hcp
    rw [← hM2] at HD2 hcp
    clear hM1 hM2
    have rw1 : IntKind.i64.wrap ((k : Int) + 1) = (k : Int) + 1 := by rw [IntKind.wrap_i64]; omega
    go_upto_region 4 with (fail)
    have hS0 : (fun _ : World => True) wc.drew := trivial
    refine wp_region_held_drew (S := fun _ => True) (by kernel_rfl) (hS0) (fun hS => ?_)
    refine wpAnyH_take (i := 0) (v := ?_) rfl (by kernel_rfl) (by kernel_rfl) (by kernel_rfl) (fun _ _ _ h => h) (Or.inl ⟨by rfl, ?_⟩) (by assumption) ?_
    rotate_left 1
    · (intro w' hSw; (try dsimp only at hSw); go_simp; try with_reducible rfl)
    try simp only [Act.put, List.setIfInBounds_toArray, List.set_cons_zero, List.set_cons_succ, List.getElem_toArray, List.getElem_cons_succ, List.getElem_cons_zero]
    refine wpAnyH_take (i := 1) (v := ?_) rfl (by kernel_rfl) (by kernel_rfl) (by kernel_rfl) (fun _ _ _ h => h) (Or.inl ⟨by rfl, ?_⟩) (by assumption) ?_
    rotate_left 1
    · (intro w' hSw; (try dsimp only at hSw); go_simp; try with_reducible rfl)
    try simp only [Act.put, List.setIfInBounds_toArray, List.set_cons_zero, List.set_cons_succ, List.getElem_toArray, List.getElem_cons_succ, List.getElem_cons_zero]
    refine wpAnyH_take (i := 2) (v := .slice (some X1) M1 M1) rfl (by kernel_rfl) (by kernel_rfl) (by kernel_rfl) (fun _ _ _ h => h) (Or.inl ⟨by rfl, ?_⟩) (by assumption) ?_
    · (intro w' hSw; (try dsimp only at hSw); have h := HD1.out w'; simp [execOp, Act.eval, h, Result.andThen])
    try simp only [Act.put, List.setIfInBounds_toArray, List.set_cons_zero, List.set_cons_succ, List.getElem_toArray, List.getElem_cons_succ, List.getElem_cons_zero]
    refine wpAnyH_take (i := 3) (v := ?_) rfl (by kernel_rfl) (by kernel_rfl) (by kernel_rfl) (fun _ _ _ h => h) (Or.inl ⟨by rfl, ?_⟩) (by assumption) ?_
    rotate_left 1
    · (intro w' hSw; (try dsimp only at hSw); go_simp; try with_reducible rfl)
    try simp only [Act.put, List.setIfInBounds_toArray, List.set_cons_zero, List.set_cons_succ, List.getElem_toArray, List.getElem_cons_succ, List.getElem_cons_zero]
    refine wpAnyH_take (i := 4) (v := .slice (some X2) M2 M2) rfl (by kernel_rfl) (by kernel_rfl) (by kernel_rfl) (fun _ _ _ h => h) (Or.inl ⟨by rfl, ?_⟩) (by assumption) ?_
    · (intro w' hSw; (try dsimp only at hSw); have h := HD2.out w'; simp [execOp, Act.eval, h, Result.andThen])
    try simp only [Act.put, List.setIfInBounds_toArray, List.set_cons_zero, List.set_cons_succ, List.getElem_toArray, List.getElem_cons_succ, List.getElem_cons_zero]
    refine wpAnyH_ready (rs := [5]) (by kernel_rfl) (by simp) (AllReadyH.cons rfl (fun K hK => ?_) AllReadyH.nil)
    go_simp
    skip
    refine hK.out _ _ (by assumption) (fun _ => ?_)
    try simp only [Act.put, List.setIfInBounds_toArray, List.set_cons_zero, List.set_cons_succ, List.getElem_toArray, List.getElem_cons_succ, List.getElem_cons_zero]
    refine wpAnyH_done (by kernel_rfl) ?_ _
    have d0 := (o5.cell (p := ⟨w.heap.size + 1 + 1 + 1, 0, none⟩) (by show w.heap.size + 1 + 1 + 1 < _; omega) (by show w.heap.size + 1 + 1 + 1 ≠ _; omega)).trans d0
    have d1 := (o5.cell (p := ⟨w.heap.size + 1 + 1 + 1, 1, none⟩) (by show w.heap.size + 1 + 1 + 1 < _; omega) (by show w.heap.size + 1 + 1 + 1 ≠ _; omega)).trans d1
    have RZ5 : Hid (RowB w5 (w.heap.size + 2) zs) := RZc.out.only o5 (by omega)
    have hb5 : Below w.heap.size w w5 := hbw.trans (o5.below (Nat.le_refl _) hbw.size)
    have hl5 := R5.out.1
    obtain ⟨u0, e0⟩ : ∃ u, w5.cell? ⟨w.heap.size, k * 2, none⟩ = some u := ⟨_, R5.out.c0 k (by omega)⟩
    obtain ⟨u1, e1⟩ : ∃ u, w5.cell? ⟨w.heap.size, k * 2 + 1, none⟩ = some u := ⟨_, R5.out.c1 k (by omega)⟩
    have f0 := R5.out.fz
    clear hl5 hcp HD1 HD2
    go_upto_region 6 with (fail)
    obtain ⟨x9, hx9⟩ : ∃ x, x = (w5.setCell ⟨w.heap.size, k * 2, none⟩ (.int .i64 id)).setCell ⟨w.heap.size, k * 2 + 1, none⟩ (.bool true) := ⟨_, rfl⟩
    have R9 : Hid (RowB x9 w.heap.size (seatsR (insI xs id))) := by rw [hx9, ← HINS.out]; exact R5.out.put k id true
    have o9 : Only w.heap.size w5 x9 := by rw [hx9]; exact only_two _ _
    rw [← hx9]
    clear hx9
    have RZ9 : Hid (RowB x9 (w.heap.size + 2) zs) := RZ5.out.only o9 (by omega)
    have hb9 : Below w.heap.size w x9 := hb5.trans (o9.below (Nat.le_refl _) hb5.size)
    go_wp2_with (first
      | (refine wpList_load_row rfl 67 (.tmp 2) rfl (w.heap.size) rfl _ _ _ _ R9.out.2 und_seats rfl (by rw [size_row R9.out.1]; exact info_seats) ?_)
      | (refine wpList_store_row rfl 67 (.tmp 4) (.tmp 26) rfl (w.heap.size + 2) _ rfl rfl _ _ RZ9.out.2 (by rw [size_row R9.out.1]; exact info_seats) (by rw [size_row RZ9.out.1, size_row R9.out.1]) (all_one _) ?_))
    obtain ⟨R8, o8⟩ := rowB_set RZ9.out R9.out.1
    refine bodyPost_ret (results_cell_row rfl _ _ (w.heap.size + 2) _ _ _ _ rfl R8.2 und_seats rfl (by rw [size_row R8.1]; exact info_seats)) rfl ?_
    exact ⟨rfl, hb9.trans (o8.below (by omega) hb9.size)⟩
set_option maxHeartbeats 4000000 in
theorem without_no {w : World} {id : Int} {xs : List Int} (hM : MemTo xs xs.length) (hl : xs.length ≤ 50) (hh : hasI id xs = false) : Calls Try.prog 56 #[.agg (flatB (seatsR xs)).toArray, .int .i64 id] w (SeatPost w (seatsR xs)) := by
  obtain ⟨Z, zs, HZ, hz⟩ := seats_zero
  have hl50 : (seatsR xs).length = 50 := seatsR_len (by omega)
  have HL : Hid ((seatsR xs).length = 50) := hl50
  obtain ⟨R, hR⟩ : ∃ R : Array Value, R = (flatB (seatsR xs)).toArray := ⟨_, rfl⟩
  have HR : Hid (R = (flatB (seatsR xs)).toArray) := hR
  rw [← hR]
  clear hR hl50
  go_enter Try.func56, Try.ntmps56
  go_upto_region 1 with (fail)
  obtain ⟨x, hx⟩ : ∃ x, x = (w.alloc (.cells R 67)).alloc (.cells Z 67) := ⟨_, rfl⟩
  rw [← hx]
  have hbx : Below w.heap.size w x := by rw [hx]; go_grown
  have hxs : w.heap.size + 1 < x.heap.size := by rw [hx]; simp
  have rp : RowB x w.heap.size (seatsR xs) := by rw [hx, HR.out]; exact (rowB_new w HL.out).next (by go_grown)
  have rz : RowB x (w.heap.size + 1) zs := by
    have h := rowB_new (w.alloc (.cells R 67)) HZ.out.2.2
    rw [← HZ.out.1, show (w.alloc (.cells R 67)).heap.size = w.heap.size + 1 by simp] at h
    rw [hx]
    exact h
  clear hx hz HZ
  have hix := ix_any (id := id) rp
  have RP : Hid (RowB x w.heap.size (seatsR xs)) := rp
  have RZ : Hid (RowB x (w.heap.size + 1) zs) := rz
  clear rp rz
  go_upto_region 2 with (first
    | (go_at_call 77; refine hix.mono ?_; clear hix; rintro e w4 ⟨z, rfl, hz, hb4⟩))
  have RP : Hid (RowB w4 w.heap.size (seatsR xs)) := RP.out.next hb4
  have RZ : Hid (RowB w4 (w.heap.size + 1) zs) := RZ.out.next hb4
  have z4 := hb4.size
  have hbw : Below w.heap.size w w4 := below_two hbx hb4
  obtain rfl : z = -1 := by
    rcases hz with ⟨e, _⟩ | ⟨k, hk, _, h, _⟩
    · exact e
    · have e := of_decide_eq_true h
      rcases Nat.lt_or_ge k xs.length with h' | h'
      · rw [seatsR_in h'] at e
        injection e with e _
        have : hasI id xs = true := decide_eq_true (by rw [← e]; exact List.getElem_mem h')
        rw [this] at hh
        cases hh
      · rw [seatsR_out h'] at e
        injection e with _ e
        cases e
  clear hz
  go_wp2_with (first
    | (refine wpList_load_row rfl 67 (.tmp 2) rfl (w.heap.size) rfl _ _ _ _ RP.out.2 und_seats rfl (by rw [size_row RP.out.1]; exact info_seats) ?_)
    | (refine wpList_store_row rfl 67 (.tmp 4) (.tmp 13) rfl (w.heap.size + 1) _ rfl rfl _ _ RZ.out.2 (by rw [size_row RP.out.1]; exact info_seats) (by rw [size_row RZ.out.1, size_row RP.out.1]) (all_one _) ?_))
  obtain ⟨R8, o8⟩ := rowB_set RZ.out RP.out.1
  refine bodyPost_ret (results_cell_row rfl _ _ (w.heap.size + 1) _ _ _ _ rfl R8.2 und_seats rfl (by rw [size_row R8.1]; exact info_seats)) rfl ?_
  exact ⟨rfl, hbw.trans (o8.below (by omega) hbw.size)⟩
set_option maxHeartbeats 4000000 in
theorem without_yes {w : World} {id : Int} {xs : List Int} (hM : MemTo xs xs.length) (hl : xs.length ≤ 50) (hh : hasI id xs = true) : Calls Try.prog 56 #[.agg (flatB (seatsR xs)).toArray, .int .i64 id] w (SeatPost w (seatsR (delI xs id))) := by
  obtain ⟨Z, zs, HZ, hz⟩ := seats_zero
  have hl50 : (seatsR xs).length = 50 := seatsR_len (by omega)
  have HL : Hid ((seatsR xs).length = 50) := hl50
  obtain ⟨R, hR⟩ : ∃ R : Array Value, R = (flatB (seatsR xs)).toArray := ⟨_, rfl⟩
  have HR : Hid (R = (flatB (seatsR xs)).toArray) := hR
  rw [← hR]
  clear hR hl50
  go_enter Try.func56, Try.ntmps56
  go_upto_region 1 with (fail)
  obtain ⟨x, hx⟩ : ∃ x, x = (w.alloc (.cells R 67)).alloc (.cells Z 67) := ⟨_, rfl⟩
  rw [← hx]
  have hbx : Below w.heap.size w x := by rw [hx]; go_grown
  have hxs : w.heap.size + 1 < x.heap.size := by rw [hx]; simp
  have rp : RowB x w.heap.size (seatsR xs) := by rw [hx, HR.out]; exact (rowB_new w HL.out).next (by go_grown)
  have rz : RowB x (w.heap.size + 1) zs := by
    have h := rowB_new (w.alloc (.cells R 67)) HZ.out.2.2
    rw [← HZ.out.1, show (w.alloc (.cells R 67)).heap.size = w.heap.size + 1 by simp] at h
    rw [hx]
    exact h
  clear hx hz HZ
  have hix := ix_any (id := id) rp
  have RP : Hid (RowB x w.heap.size (seatsR xs)) := rp
  have RZ : Hid (RowB x (w.heap.size + 1) zs) := rz
  clear rp rz
  go_upto_region 2 with (first
    | (go_at_call 77; refine hix.mono ?_; clear hix; rintro e w4 ⟨z, rfl, hz, hb4⟩))
  have RP : Hid (RowB w4 w.heap.size (seatsR xs)) := RP.out.next hb4
  have RZ : Hid (RowB w4 (w.heap.size + 1) zs) := RZ.out.next hb4
  have z4 := hb4.size
  have hbw : Below w.heap.size w w4 := below_two hbx hb4
  obtain ⟨k, rfl, hkn, hke⟩ : ∃ k : Nat, z = k ∧ ∃ h : k < xs.length, xs[k] = id := by
    rcases hz with ⟨_, h⟩ | ⟨k, hk, e, h, _⟩
    · obtain ⟨j, hj, e⟩ := List.mem_iff_getElem.1 (of_decide_eq_true hh)
      have := h j (by rw [HL.out]; omega)
      rw [seatsR_in hj, e] at this
      simp [eB] at this
    · refine ⟨k, e, ?_⟩
      have e := of_decide_eq_true h
      rcases Nat.lt_or_ge k xs.length with h' | h'
      · rw [seatsR_in h'] at e
        injection e with e _
        exact ⟨h', e⟩
      · rw [seatsR_out h'] at e
        injection e with _ e
        cases e
  have HDEL : Hid ((splice (seatsR xs) k (((seatsR xs).drop (k + 1)).take (49 - k))).set 49 (0, false) = seatsR (delI xs id)) := by
    show _ = _
    rw [seatsR_del hkn hl, delI_at hM hkn hke]
  clear hz hke
  have hk50 : k < 50 := by omega
  have hk5 : (k : Int) < 50 := by omega
  have hk0 : (0 : Int) ≤ (k : Int) := by omega
  have hkn0 : ¬ (k : Int) < 0 := by omega
  obtain ⟨X1, hX1⟩ : ∃ X : Addr, (if 50 = k then (⟨w.heap.size, 0, none⟩ : Addr) else ⟨w.heap.size, k * 2, none⟩) = X := ⟨_, rfl⟩
  obtain ⟨X2, hX2⟩ : ∃ X : Addr, (if 50 = k + 1 then (⟨w.heap.size, 0, none⟩ : Addr) else ⟨w.heap.size, (k + 1) * 2, none⟩) = X := ⟨_, rfl⟩
  have HD1 : Hid (∀ w', (Instr.sliceAt 67 (.pointer (some ⟨w.heap.size, 0, none⟩)) (some (.int .i64 (k : Int))) none none).run Try.prog w' = .ok (.slice (some X1) (50 - k) (50 - k)) w') := fun w' => by rw [← hX1]; exact sliceB_run rfl (by omega) w'
  have HD2 : Hid (∀ w', (Instr.sliceAt 67 (.pointer (some ⟨w.heap.size, 0, none⟩)) (some (.int .i64 ((k : Int) + 1))) none none).run Try.prog w' = .ok (.slice (some X2) (50 - (k + 1)) (50 - (k + 1))) w') := fun w' => by rw [← hX2]; exact sliceB_run (by omega) (by omega) w'
  have RPd : RowB w4.drew w.heap.size (seatsR xs) := RP.out.next (Below.refl _ _).drew
  obtain ⟨n, hn⟩ : ∃ n, n = 49 - k := ⟨_, rfl⟩
  obtain ⟨w5, hcp, R5, o5⟩ := copyB RPd 3 k (k + 1) (49 - k) (50 - k) (50 - (k + 1)) X1 X2 (fun h => by rw [← hX1, if_neg (by omega)]) (fun h => by rw [← hX2, if_neg (by omega)]) (by omega) (by show 49 - k = min (50 - (k + 1)) (50 - k); omega)
  clear RPd hX1 hX2
  have R5 : Hid (RowB w5 w.heap.size (splice (seatsR xs) k (((seatsR xs).drop (k + 1)).take (49 - k)))) := R5
  have o5 : Only w.heap.size w4 w5 := Only.trans (Only.of_below (Below.refl _ _).drew) o5
  obtain ⟨M1, hM1⟩ : ∃ M, M = 50 - k := ⟨_, rfl⟩
  obtain ⟨M2, hM2⟩ : ∃ M, M = 50 - (k + 1) := ⟨_, rfl⟩
  rw [← hM1, ← hM2, ← hn] at hcp
  rw [← hM1] at HD1
  rw [← hM2] at HD2
  have rw1 : IntKind.i64.wrap ((k : Int) + 1) = (k : Int) + 1 := by rw [IntKind.wrap_i64]; omega
  have rw2 : IntKind.i64.wrap ((k : Int) + (n : Int)) = 49 := by rw [IntKind.wrap_i64]; omega
  have hgi : goInt n = .int .i64 (n : Int) := rfl
  rw [hgi] at hcp
  clear hM1 hM2 hn hgi
  go_upto_region 4 with (fail)
  have hS0 : (fun _ : World => True) w4.drew := trivial
  refine wp_region_held_drew (S := fun _ => True) (by kernel_rfl) (hS0) (fun hS => ?_)
  refine wpAnyH_take (i := 0) (v := ?_) rfl (by kernel_rfl) (by kernel_rfl) (by kernel_rfl) (fun _ _ _ h => h) (Or.inl ⟨by rfl, ?_⟩) (by assumption) ?_
  rotate_left 1
  · (intro w' hSw; (try dsimp only at hSw); go_simp; try with_reducible rfl)
  try simp only [Act.put, List.setIfInBounds_toArray, List.set_cons_zero, List.set_cons_succ, List.getElem_toArray, List.getElem_cons_succ, List.getElem_cons_zero]
  refine wpAnyH_take (i := 1) (v := .slice (some X1) M1 M1) rfl (by kernel_rfl) (by kernel_rfl) (by kernel_rfl) (fun _ _ _ h => h) (Or.inl ⟨by rfl, ?_⟩) (by assumption) ?_
  · (intro w' hSw; (try dsimp only at hSw); have h := HD1.out w'; simp [execOp, Act.eval, h, Result.andThen])
  try simp only [Act.put, List.setIfInBounds_toArray, List.set_cons_zero, List.set_cons_succ, List.getElem_toArray, List.getElem_cons_succ, List.getElem_cons_zero]
  refine wpAnyH_take (i := 2) (v := ?_) rfl (by kernel_rfl) (by kernel_rfl) (by kernel_rfl) (fun _ _ _ h => h) (Or.inl ⟨by rfl, ?_⟩) (by assumption) ?_
  rotate_left 1
  · (intro w' hSw; (try dsimp only at hSw); go_simp; try with_reducible rfl)
  try simp only [Act.put, List.setIfInBounds_toArray, List.set_cons_zero, List.set_cons_succ, List.getElem_toArray, List.getElem_cons_succ, List.getElem_cons_zero]
  refine wpAnyH_take (i := 3) (v := ?_) rfl (by kernel_rfl) (by kernel_rfl) (by kernel_rfl) (fun _ _ _ h => h) (Or.inl ⟨by rfl, ?_⟩) (by assumption) ?_
  rotate_left 1
  · (intro w' hSw; (try dsimp only at hSw); go_simp; try with_reducible rfl)
  try simp only [Act.put, List.setIfInBounds_toArray, List.set_cons_zero, List.set_cons_succ, List.getElem_toArray, List.getElem_cons_succ, List.getElem_cons_zero]
  refine wpAnyH_take (i := 4) (v := .slice (some X2) M2 M2) rfl (by kernel_rfl) (by kernel_rfl) (by kernel_rfl) (fun _ _ _ h => h) (Or.inl ⟨by rfl, ?_⟩) (by assumption) ?_
  · (intro w' hSw; (try dsimp only at hSw); have h := HD2.out w'; simp [execOp, Act.eval, h, Result.andThen])
  try simp only [Act.put, List.setIfInBounds_toArray, List.set_cons_zero, List.set_cons_succ, List.getElem_toArray, List.getElem_cons_succ, List.getElem_cons_zero]
  refine wpAnyH_ready (rs := [5]) (by kernel_rfl) (by simp) (AllReadyH.cons rfl (fun K hK => ?_) AllReadyH.nil)
  go_simp
  skip
  refine hK.out _ _ (by assumption) (fun _ => ?_)
  try simp only [Act.put, List.setIfInBounds_toArray, List.set_cons_zero, List.set_cons_succ, List.getElem_toArray, List.getElem_cons_succ, List.getElem_cons_zero]
  refine wpAnyH_take (i := 6) (v := ?_) rfl (by kernel_rfl) (by kernel_rfl) (by kernel_rfl) (fun _ _ _ h => h) (Or.inl ⟨by rfl, ?_⟩) (by assumption) ?_
  rotate_left 1
  · (intro w' hSw; (try dsimp only at hSw); go_simp; try with_reducible rfl)
  try simp only [Act.put, List.setIfInBounds_toArray, List.set_cons_zero, List.set_cons_succ, List.getElem_toArray, List.getElem_cons_succ, List.getElem_cons_zero]
  refine wpAnyH_done (by kernel_rfl) ?_ _
  have RZ5 : Hid (RowB w5 (w.heap.size + 1) zs) := RZ.out.only o5 (by omega)
  have hb5 : Below w.heap.size w w5 := hbw.trans (o5.below (Nat.le_refl _) hbw.size)
  obtain ⟨w6, hcl, R6, o6⟩ := clearB R5.out 0 1
  have R9 : Hid (RowB w6 w.heap.size (seatsR (delI xs id))) := by rw [← HDEL.out]; exact R6
  have RZ9 : Hid (RowB w6 (w.heap.size + 1) zs) := RZ5.out.only o6 (by omega)
  have hb9 : Below w.heap.size w w6 := hb5.trans (o6.below (Nat.le_refl _) hb5.size)
  clear R6 hcp HD1 HD2
  go_wp2_with (first
    | (refine wpList_load_row rfl 67 (.tmp 2) rfl (w.heap.size) rfl _ _ _ _ R9.out.2 und_seats rfl (by rw [size_row R9.out.1]; exact info_seats) ?_)
    | (refine wpList_store_row rfl 67 (.tmp 4) (.tmp 24) rfl (w.heap.size + 1) _ rfl rfl _ _ RZ9.out.2 (by rw [size_row R9.out.1]; exact info_seats) (by rw [size_row RZ9.out.1, size_row R9.out.1]) (all_one _) ?_))
  obtain ⟨R8, o8⟩ := rowB_set RZ9.out R9.out.1
  refine bodyPost_ret (results_cell_row rfl _ _ (w.heap.size + 1) _ _ _ _ rfl R8.2 und_seats rfl (by rw [size_row R8.1]; exact info_seats)) rfl ?_
  exact ⟨rfl, hb9.trans (o8.below (by omega) hb9.size)⟩
end Go.Proofs.Ytoeiheccmpjclaf

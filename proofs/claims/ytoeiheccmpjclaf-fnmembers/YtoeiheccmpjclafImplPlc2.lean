/- What impl's Claim and Free answer. -/
import Derived.Test.YtoeiheccmpjclafImplPlc
import Derived.Laws.CopyOwn
import Derived.Laws.OwnMore
import Derived.Shelf.Abstract
namespace Go.Proofs.Ytoeiheccmpjclaf
open Go.ChangeShapes Go.WideShapes Go.ChangeAt Go.RowKit
set_option maxRecDepth 100000
set_option linter.unusedVariables false
set_option linter.unusedSimpArgs false

theorem ifill_row {w : World} {g : Nat} {t : TypeId} {xs : List Int} (h : w.heap[g]? = some (.cells (flatI xs).toArray t (0, 0))) : IFill w g xs.length xs xs.length :=
  ⟨fun j hj => ⟨⟨xs[j], by rw [cell_of_row w g j _ t (0, 0) h, List.getElem?_toArray]; unfold flatI; rw [List.getElem?_map, List.getElem?_eq_getElem hj]; rfl⟩, frozen_of_row w g j _ t h⟩, fun i hi hk => by rw [cell_of_row w g i _ t (0, 0) h, List.getElem?_toArray]; unfold flatI; rw [List.getElem?_map, List.getElem?_eq_getElem hi]; rfl⟩
theorem splice_all {α : Type} (L cs : List α) (h : L.length = cs.length) : splice L 0 cs = cs := by
  unfold splice
  rw [List.take_zero, List.nil_append, Nat.zero_add, ← h, List.drop_length, List.append_nil]
set_option maxHeartbeats 4000000 in
theorem ownM_any {wd fl : Int} {w : World} {a : Option Addr} (cap : Nat) {xs : List Int} (hl : xs.length ≤ 1048576) (smp : ISmp w.heap.size w a xs) : Calls Try.prog 63 #[.agg #[.int .i64 wd, .int .i64 fl, .slice a xs.length cap]] w (AnsP w xs wd fl) := by
  obtain ⟨i0, hi, hz0, hz1, hz2⟩ := info_parts info_int
  go_enter Try.func63, Try.ntmps63
  go_upto_region 1 with (fail)
  obtain ⟨x, hx⟩ : ∃ x, x = (w.alloc (.cells #[.int .i64 wd, .int .i64 fl, .slice a xs.length cap] 37)).alloc (.cells #[.int .i64 0, .int .i64 0, .slice none 0 0] 37) := ⟨_, rfl⟩
  rw [← hx]
  have hbw : Below w.heap.size w x := by rw [hx]; go_grown
  have zl : w.heap.size + 1 + 1 ≤ x.heap.size := by rw [hx]; simp
  have p0 : x.cell? ⟨w.heap.size, 0, none⟩ = some (.int .i64 wd) := by rw [hx]; go_simp
  have p1 : x.cell? ⟨w.heap.size, 1, none⟩ = some (.int .i64 fl) := by rw [hx]; go_simp
  have p2 : x.cell? ⟨w.heap.size, 2, none⟩ = some (.slice a xs.length cap) := by rw [hx]; go_simp
  have v0 : x.cell? ⟨w.heap.size + 1, 0, none⟩ = some (.int .i64 0) := by rw [hx]; go_simp
  have v1 : x.cell? ⟨w.heap.size + 1, 1, none⟩ = some (.int .i64 0) := by rw [hx]; go_simp
  have v2 : x.cell? ⟨w.heap.size + 1, 2, none⟩ = some (.slice none 0 0) := by rw [hx]; go_simp
  have pz : ∀ o : Nat, x.frozen? ⟨w.heap.size, o, none⟩ = false := fun o => by rw [hx]; go_simp
  have vz : ∀ o : Nat, x.frozen? ⟨w.heap.size + 1, o, none⟩ = false := fun o => by rw [hx]; go_simp
  clear hx
  go_upto_region 2 with (first
    | (at_make; refine wpList_make_full _ rfl _ _ 35 rfl x.heap.size 2 i0 _ 1 Try.underlying35 hi hz0 hz1 _ _ _ _ xs.length rfl rfl rfl rfl (by rw [hz2]; omega) (by unfold maxLen; omega) (Nat.le_refl _) ?_; intro w3 own3 gr3; have hb3 : Below x.heap.size x w3 := (Below.refl _ _).grown gr3 (Nat.le_refl _) (fun k hk => by cases hk); have z3 := zl; have hbw : Below w.heap.size w w3 := below_two hbw hb3; have p0 := (hb3.cell (p := ⟨w.heap.size, 0, none⟩) (by show w.heap.size < _; omega)).trans p0; have p1 := (hb3.cell (p := ⟨w.heap.size, 1, none⟩) (by show w.heap.size < _; omega)).trans p1; have p2 := (hb3.cell (p := ⟨w.heap.size, 2, none⟩) (by show w.heap.size < _; omega)).trans p2; have v0 := (hb3.cell (p := ⟨w.heap.size + 1, 0, none⟩) (by show w.heap.size + 1 < _; omega)).trans v0; have v1 := (hb3.cell (p := ⟨w.heap.size + 1, 1, none⟩) (by show w.heap.size + 1 < _; omega)).trans v1; have v2 := (hb3.cell (p := ⟨w.heap.size + 1, 2, none⟩) (by show w.heap.size + 1 < _; omega)).trans v2; have vz : ∀ o : Nat, w3.frozen? ⟨w.heap.size + 1, o, none⟩ = false := fun o => (hb3.frozen (p := ⟨w.heap.size + 1, o, none⟩) (by show w.heap.size + 1 < _; omega)).trans (vz o); have zl : w.heap.size + 1 + 1 ≤ w3.heap.size := Nat.le_trans zl hb3.size; have pz : ∀ o : Nat, w3.frozen? ⟨w.heap.size, o, none⟩ = false := (fun o => (hb3.frozen (p := ⟨w.heap.size, o, none⟩) (by show w.heap.size < _; omega)).trans (pz o))))
  obtain ⟨L, hL, hrow⟩ : ∃ L : List Value, L.length = xs.length ∧ w3.heap[x.heap.size]? = some (.cells L.toArray 2 (0, 0)) := by
    rcases own3.2 with ⟨e, _⟩ | ⟨g, c, cur, e, _, hg, hnc, hcm, hcs, _⟩
    · cases e
    · cases e
      exact ⟨cur.toList, by rw [Array.length_toList, hcs]; omega, by simpa using hg⟩
  have hsm : Hid (∀ j v, (flatI xs)[j]? = some v → ∃ ad, a = some ad ∧ w3.cell? (ad.add j) = some v) := fun j v hv => by
    have hj : j < xs.length := by have := (List.getElem?_eq_some_iff.1 hv).1; rwa [flatI_length] at this
    obtain ⟨b, off, e, _⟩ := smp j hj
    subst e
    exact ⟨_, rfl, ismp_news (smp.mono hbw) j v hv⟩
  have HL : Hid (L.length = xs.length) := hL
  have HSM : Hid (∀ u ∈ flatI xs, u.oneCell' = true) := flatI_one xs
  obtain ⟨X1, hX1⟩ : ∃ X1, X1 = flatI xs := ⟨_, rfl⟩
  have HX : Hid (X1.length = xs.length) := by show _ = _; rw [hX1, flatI_length]
  have HXE : Hid (X1 = flatI xs) := hX1
  rw [← hX1] at hsm HSM
  clear hX1 hL
  have hpos : Hid (0 < X1.length → (some (⟨x.heap.size, 0, none⟩ : Addr)) = some ⟨x.heap.size, 0, none⟩ ∧ ∃ ad, a = some ad ∧ ∀ j v, X1[j]? = some v → w3.cell? (ad.add j) = some v) := fun h0 => ⟨rfl, by
    obtain ⟨ad, e, _⟩ := hsm.out 0 X1[0] (List.getElem?_eq_getElem h0)
    exact ⟨ad, e, fun j v hv => by obtain ⟨ad', e', h⟩ := hsm.out j v hv; rw [e] at e'; cases e'; exact h⟩⟩
  go_upto_region 3 with (first
    | (refine wpList_copy_splice rfl (.tmp 8) (.tmp 10) 35 35 rfl 2 Try.underlying35 (by kernel_rfl) _ _ _ _ _ _ rfl rfl x.heap.size 0 L 2 hrow X1 (HX.out.trans (Nat.min_self _).symm) hpos.out (by have := HX.out; have := HL.out; omega) HSM.out x.heap.size w3 (Below.refl _ _) (Nat.le_refl _) ?_; intro w4 HG4 hb4))
  have gr : x.heap.size < w3.heap.size := (own3.lt _ rfl).2
  have oC : Below w.heap.size w w4 := hbw.trans (hb4.mono (by omega))
  have f4 : IFill w4 x.heap.size xs.length xs xs.length := by
    have h := HG4.out
    rw [splice_all _ _ (HL.out.trans HX.out.symm), HXE.out] at h
    exact ifill_row h
  have z4 := hb4.size
  have p0 := (hb4.cell (p := ⟨w.heap.size, 0, none⟩) (by show w.heap.size < _; omega)).trans p0
  have p1 := (hb4.cell (p := ⟨w.heap.size, 1, none⟩) (by show w.heap.size < _; omega)).trans p1
  have p2 := (hb4.cell (p := ⟨w.heap.size, 2, none⟩) (by show w.heap.size < _; omega)).trans p2
  have v0 := (hb4.cell (p := ⟨w.heap.size + 1, 0, none⟩) (by show w.heap.size + 1 < _; omega)).trans v0
  have v1 := (hb4.cell (p := ⟨w.heap.size + 1, 1, none⟩) (by show w.heap.size + 1 < _; omega)).trans v1
  have v2 := (hb4.cell (p := ⟨w.heap.size + 1, 2, none⟩) (by show w.heap.size + 1 < _; omega)).trans v2
  have pz : ∀ o : Nat, w4.frozen? ⟨w.heap.size, o, none⟩ = false := fun o => (hb4.frozen (p := ⟨w.heap.size, o, none⟩) (by show w.heap.size < _; omega)).trans (pz o)
  have vz : ∀ o : Nat, w4.frozen? ⟨w.heap.size + 1, o, none⟩ = false := fun o => (hb4.frozen (p := ⟨w.heap.size + 1, o, none⟩) (by show w.heap.size + 1 < _; omega)).trans (vz o)
  have gx : x.heap.size < w4.heap.size := by omega
  clear HG4 hrow hpos hsm own3 gr3 HL HX HXE HSM
  go_upto_region 4 with (fail)
  obtain ⟨x4, hx4⟩ : ∃ y, y = w4.setCell ⟨w.heap.size, 2, none⟩ (.slice (some ⟨x.heap.size, 0, none⟩) xs.length xs.length) := ⟨_, rfl⟩
  rw [← hx4]
  have oX : Only w.heap.size w4 x4 := by rw [hx4]; exact (Only.refl _ w4).setCell (p := ⟨w.heap.size, 2, none⟩) rfl _
  have p0 : x4.cell? ⟨w.heap.size, 0, none⟩ = some (.int .i64 wd) := by rw [hx4]; exact (set_other4 (by decide)).trans p0
  have p1 : x4.cell? ⟨w.heap.size, 1, none⟩ = some (.int .i64 fl) := by rw [hx4]; exact (set_other4 (by decide)).trans p1
  have p2 : x4.cell? ⟨w.heap.size, 2, none⟩ = some (.slice (some ⟨x.heap.size, 0, none⟩) xs.length xs.length) := by rw [hx4]; exact set_same4 _ p2
  have v0 : x4.cell? ⟨w.heap.size + 1, 0, none⟩ = some (.int .i64 0) := (oX.cell (by show w.heap.size + 1 < _; omega) (by show w.heap.size + 1 ≠ _; omega)).trans v0
  have v1 : x4.cell? ⟨w.heap.size + 1, 1, none⟩ = some (.int .i64 0) := (oX.cell (by show w.heap.size + 1 < _; omega) (by show w.heap.size + 1 ≠ _; omega)).trans v1
  have v2 : x4.cell? ⟨w.heap.size + 1, 2, none⟩ = some (.slice none 0 0) := (oX.cell (by show w.heap.size + 1 < _; omega) (by show w.heap.size + 1 ≠ _; omega)).trans v2
  have vz : ∀ o : Nat, x4.frozen? ⟨w.heap.size + 1, o, none⟩ = false := fun o => (oX.frozen (by show w.heap.size + 1 < _; omega) (by show w.heap.size + 1 ≠ _; omega)).trans (vz o)
  have f4 : IFill x4 x.heap.size xs.length xs xs.length := f4.only oX gx (by omega)
  have hbw : Below w.heap.size w x4 := oC.trans (oX.below (Nat.le_refl _) (by omega))
  have zX := oX.size
  clear hx4 oX
  go_wp2
  obtain ⟨y, ey, cs, fzy, sz, hbel, hon⟩ := over3 (.int .i64 wd) (.int .i64 fl) (.slice (some ⟨x.heap.size, 0, none⟩) xs.length xs.length) (w := x4) (g := w.heap.size + 1) v0 v1 v2
  rw [← ey]
  refine bodyPost_ret (results_one rfl _ _ _ [.int .i64 wd, .int .i64 fl, .slice (some ⟨x.heap.size, 0, none⟩) xs.length xs.length] rfl cs Try.underlying37 rfl (by kernel_rfl)) rfl ?_
  exact ⟨_, _, _, rfl, .inl ⟨x.heap.size, xs.length, rfl, by omega, by omega, f4.only hon (by omega) (by omega), Nat.le_refl _⟩, hbw.trans (hbel _ (by omega))⟩
set_option maxHeartbeats 4000000 in
theorem less_any {wd fl n f1 : Int} (w : World) (a : Option Addr) (k c : Nat) (h1 : max 0 (fl - n) = f1) (hn : (0 ≤ fl ∧ fl ≤ 1000000000) ∧ (0 ≤ n ∧ n ≤ 1000000000)) : Calls Try.prog 57 #[.agg #[.int .i64 wd, .int .i64 fl, .slice a k c], .int .i64 n] w fun e w' => e = .returned (.agg #[.int .i64 wd, .int .i64 f1, .slice a k c]) ∧ Below w.heap.size w w' := by
  have r1 : IntKind.i64.wrap (fl - n) = fl - n := by rw [IntKind.wrap_i64]; omega
  rcases Int.lt_or_le (fl - n) 0 with hc | hc
  · obtain rfl : f1 = 0 := by omega
    go_enter Try.func57, Try.ntmps57
    go_wp2
    refine bodyPost_ret (results_one rfl _ _ _ [.int .i64 wd, .int .i64 0, .slice a k c] rfl (cells_three (by go_simp) (by go_simp) (by go_simp)) Try.underlying37 rfl (by kernel_rfl)) rfl ?_
    exact ⟨rfl, by go_grown⟩
  · obtain rfl : f1 = (fl - n) := by omega
    go_enter Try.func57, Try.ntmps57
    go_wp2
    refine bodyPost_ret (results_one rfl _ _ _ [.int .i64 wd, .int .i64 (fl - n), .slice a k c] rfl (cells_three (by go_simp) (by go_simp) (by go_simp)) Try.underlying37 rfl (by kernel_rfl)) rfl ?_
    exact ⟨rfl, by go_grown⟩
set_option maxHeartbeats 4000000 in
theorem implClaim_no {wd fl n : Int} {w : World} {a : Option Addr} (cap : Nat) {xs : List Int} (hr : roomB wd fl n xs = false) (smp : ISmp w.heap.size w a xs) : Calls Try.prog 25 #[.agg #[.int .i64 wd, .int .i64 fl, .slice a xs.length cap], .int .i64 n] w fun e w' => e = .returned (.tuple #[.agg #[.int .i64 0, .int .i64 0, .slice none 0 0], .bool false]) ∧ Below w.heap.size w w' := by
  go_enter Try.func25, Try.ntmps25
  go_wp2_with (first
    | (go_at_call 27; refine (implRoom_is cap hr (smp.here (by go_grown))).mono ?_; rintro e w3 ⟨rfl, hbw3⟩; have hbw : Below w.heap.size w w3 := below_two (by go_grown) hbw3; have kc := below_cells4 hbw3; have kf := below_frozens4 hbw3; have zl := hbw3.size; (try simp at zl); have p0 : w3.cell? ⟨w.heap.size, 0, none⟩ = some (.int .i64 wd) := (kc _ _ (by simp; try omega)).trans (by go_simp); have p1 : w3.cell? ⟨w.heap.size, 1, none⟩ = some (.int .i64 fl) := (kc _ _ (by simp; try omega)).trans (by go_simp); have p2 : w3.cell? ⟨w.heap.size, 2, none⟩ = some (.slice a xs.length cap) := (kc _ _ (by simp; try omega)).trans (by go_simp); have v0 : w3.cell? ⟨w.heap.size + 1, 0, none⟩ = some (.int .i64 0) := (kc _ _ (by simp; try omega)).trans (by go_simp); have v1 : w3.cell? ⟨w.heap.size + 1, 1, none⟩ = some (.int .i64 0) := (kc _ _ (by simp; try omega)).trans (by go_simp); have v2 : w3.cell? ⟨w.heap.size + 1, 2, none⟩ = some (.slice none 0 0) := (kc _ _ (by simp; try omega)).trans (by go_simp); have vz : ∀ o : Nat, w3.frozen? ⟨w.heap.size + 1, o, none⟩ = false := (fun o => (kf _ _ (by simp; try omega)).trans (by go_simp)); have pz : ∀ o : Nat, w3.frozen? ⟨w.heap.size, o, none⟩ = false := (fun o => (kf _ _ (by simp; try omega)).trans (by go_simp)); clear kc kf))
  obtain ⟨y, ey, cs, fzy, sz, hbel, hon⟩ := over3 (.int .i64 0) (.int .i64 0) (.slice none 0 0) (g := w.heap.size + 1) v0 v1 v2
  rw [← ey]
  refine bodyPost_ret (results_two rfl _ _ _ [.int .i64 0, .int .i64 0, .slice none 0 0] rfl cs Try.underlying37 rfl (by kernel_rfl)) rfl ?_
  exact ⟨rfl, hbw.trans (hbel _ (by omega))⟩
set_option maxHeartbeats 4000000 in
theorem implClaim_yes {wd fl n : Int} {w : World} {a : Option Addr} (cap : Nat) {xs : List Int} (hr : roomB wd fl n xs = true) (smp : ISmp w.heap.size w a xs) : Calls Try.prog 25 #[.agg #[.int .i64 wd, .int .i64 fl, .slice a xs.length cap], .int .i64 n] w (AnsPT w xs wd (fl + n) true) := by
  obtain ⟨hp, hn, hle⟩ := room_num hr
  obtain ⟨⟨q1, q2⟩, ⟨q3, q4⟩, q5⟩ := pl_num hp
  obtain ⟨q6, q7⟩ := s10_num hn
  have r1 : IntKind.i64.wrap (fl + n) = fl + n := by rw [IntKind.wrap_i64]; omega
  go_enter Try.func25, Try.ntmps25
  go_upto_region 4 with (first
    | (go_at_call 27; refine (implRoom_is cap hr (smp.here (by go_grown))).mono ?_; rintro e w3 ⟨rfl, hbw3⟩; have hbw : Below w.heap.size w w3 := below_two (by go_grown) hbw3; have kc := below_cells4 hbw3; have kf := below_frozens4 hbw3; have zl := hbw3.size; (try simp at zl); have p0 : w3.cell? ⟨w.heap.size, 0, none⟩ = some (.int .i64 wd) := (kc _ _ (by simp; try omega)).trans (by go_simp); have p1 : w3.cell? ⟨w.heap.size, 1, none⟩ = some (.int .i64 fl) := (kc _ _ (by simp; try omega)).trans (by go_simp); have p2 : w3.cell? ⟨w.heap.size, 2, none⟩ = some (.slice a xs.length cap) := (kc _ _ (by simp; try omega)).trans (by go_simp); have v0 : w3.cell? ⟨w.heap.size + 1, 0, none⟩ = some (.int .i64 0) := (kc _ _ (by simp; try omega)).trans (by go_simp); have v1 : w3.cell? ⟨w.heap.size + 1, 1, none⟩ = some (.int .i64 0) := (kc _ _ (by simp; try omega)).trans (by go_simp); have v2 : w3.cell? ⟨w.heap.size + 1, 2, none⟩ = some (.slice none 0 0) := (kc _ _ (by simp; try omega)).trans (by go_simp); have vz : ∀ o : Nat, w3.frozen? ⟨w.heap.size + 1, o, none⟩ = false := (fun o => (kf _ _ (by simp; try omega)).trans (by go_simp)); have pz : ∀ o : Nat, w3.frozen? ⟨w.heap.size, o, none⟩ = false := (fun o => (kf _ _ (by simp; try omega)).trans (by go_simp)); clear kc kf)
    | (go_at_call 63; refine (ownM_any cap (by omega) (smp.here hbw)).mono ?_; rintro e w5 ⟨a5, n5, c5, rfl, iv5, hb5⟩; have z3 := zl; have hbw : Below w.heap.size w w5 := below_two hbw hb5; have p0 := (hb5.cell (p := ⟨w.heap.size, 0, none⟩) (by show w.heap.size < _; omega)).trans p0; have p1 := (hb5.cell (p := ⟨w.heap.size, 1, none⟩) (by show w.heap.size < _; omega)).trans p1; have p2 := (hb5.cell (p := ⟨w.heap.size, 2, none⟩) (by show w.heap.size < _; omega)).trans p2; have v0 := (hb5.cell (p := ⟨w.heap.size + 1, 0, none⟩) (by show w.heap.size + 1 < _; omega)).trans v0; have v1 := (hb5.cell (p := ⟨w.heap.size + 1, 1, none⟩) (by show w.heap.size + 1 < _; omega)).trans v1; have v2 := (hb5.cell (p := ⟨w.heap.size + 1, 2, none⟩) (by show w.heap.size + 1 < _; omega)).trans v2; have vz : ∀ o : Nat, w5.frozen? ⟨w.heap.size + 1, o, none⟩ = false := fun o => (hb5.frozen (p := ⟨w.heap.size + 1, o, none⟩) (by show w.heap.size + 1 < _; omega)).trans (vz o); have zl : w.heap.size + 1 + 1 ≤ w5.heap.size := Nat.le_trans zl hb5.size; have pz : ∀ o : Nat, w5.frozen? ⟨w.heap.size, o, none⟩ = false := (fun o => (hb5.frozen (p := ⟨w.heap.size, o, none⟩) (by show w.heap.size < _; omega)).trans (pz o))))
  obtain ⟨x6, ex6, cs6, fz6, sz6, hb6', on6⟩ := over3 (.int .i64 wd) (.int .i64 fl) (.slice a5 n5 c5) (w := w5) (g := w.heap.size) p0 p1 p2
  rw [← ex6]
  clear ex6 p0 p1 p2
  have p0 : x6.cell? ⟨w.heap.size, 0, none⟩ = some (.int .i64 wd) := cs6 0 _ rfl
  have p1 : x6.cell? ⟨w.heap.size, 1, none⟩ = some (.int .i64 fl) := cs6 1 _ rfl
  have p2 : x6.cell? ⟨w.heap.size, 2, none⟩ = some (.slice a5 n5 c5) := cs6 2 _ rfl
  have v0 := (on6.cell (p := ⟨w.heap.size + 1, 0, none⟩) (by show w.heap.size + 1 < _; omega) (by show w.heap.size + 1 ≠ _; omega)).trans v0
  have v1 := (on6.cell (p := ⟨w.heap.size + 1, 1, none⟩) (by show w.heap.size + 1 < _; omega) (by show w.heap.size + 1 ≠ _; omega)).trans v1
  have v2 := (on6.cell (p := ⟨w.heap.size + 1, 2, none⟩) (by show w.heap.size + 1 < _; omega) (by show w.heap.size + 1 ≠ _; omega)).trans v2
  have pz : ∀ o : Nat, x6.frozen? ⟨w.heap.size, o, none⟩ = false := fun o => (fz6 _ _).trans (pz o)
  have vz : ∀ o : Nat, x6.frozen? ⟨w.heap.size + 1, o, none⟩ = false := fun o => (fz6 _ _).trans (vz o)
  have hbw : Below w.heap.size w x6 := hbw.trans (hb6' _ (Nat.le_refl _))
  have zl : w.heap.size + 1 + 1 ≤ x6.heap.size := by rw [sz6]; exact zl
  have iv6 := iv5.onlyO (OnlyO.of_only on6) (fun g hg e => by have := (iv5.own hg).1; injection e with e; omega)
  clear cs6 fz6 sz6 hb6' on6
  go_upto_region 5 with (fail)
  obtain ⟨x7, hx7⟩ : ∃ x, x = (x6.setCell ⟨w.heap.size, 1, none⟩ (.int .i64 (fl + n))) := ⟨_, rfl⟩
  rw [← hx7]
  have oX : Only w.heap.size x6 x7 := by rw [hx7]; exact ((Only.refl _ x6).setCell (p := ⟨w.heap.size, 1, none⟩) rfl _)
  have p0 : x7.cell? ⟨w.heap.size, 0, none⟩ = some (.int .i64 wd) := by rw [hx7]; exact (set_other4 (by decide)).trans p0
  have p1 : x7.cell? ⟨w.heap.size, 1, none⟩ = some (.int .i64 (fl + n)) := by rw [hx7]; exact set_same4 _ p1
  have p2 : x7.cell? ⟨w.heap.size, 2, none⟩ = some (.slice a5 n5 c5) := by rw [hx7]; exact (set_other4 (by decide)).trans p2
  have v0 := (oX.cell (p := ⟨w.heap.size + 1, 0, none⟩) (by show w.heap.size + 1 < _; omega) (by show w.heap.size + 1 ≠ _; omega)).trans v0
  have v1 := (oX.cell (p := ⟨w.heap.size + 1, 1, none⟩) (by show w.heap.size + 1 < _; omega) (by show w.heap.size + 1 ≠ _; omega)).trans v1
  have v2 := (oX.cell (p := ⟨w.heap.size + 1, 2, none⟩) (by show w.heap.size + 1 < _; omega) (by show w.heap.size + 1 ≠ _; omega)).trans v2
  have vz : ∀ o : Nat, x7.frozen? ⟨w.heap.size + 1, o, none⟩ = false := fun o => (oX.frozen (p := ⟨w.heap.size + 1, o, none⟩) (by show w.heap.size + 1 < _; omega) (by show w.heap.size + 1 ≠ _; omega)).trans (vz o)
  have hbw : Below w.heap.size w x7 := hbw.trans (oX.below (Nat.le_refl _) (by omega))
  have iv7 := iv6.onlyO (OnlyO.of_only oX) (fun g hg e => by have := (iv6.own hg).1; injection e with e; omega)
  have zl := Nat.le_trans zl oX.size
  clear hx7 oX
  go_wp2
  obtain ⟨y, ey, cs, fzy, sz, hbel, hon⟩ := over3 (.int .i64 wd) (.int .i64 (fl + n)) (.slice a5 n5 c5) (g := w.heap.size + 1) v0 v1 v2
  rw [← ey]
  refine bodyPost_ret (results_two rfl _ _ _ [.int .i64 wd, .int .i64 (fl + n), .slice a5 n5 c5] rfl cs Try.underlying37 rfl (by kernel_rfl)) rfl ?_
  exact ⟨_, _, _, rfl, (iv7.onlyO (OnlyO.of_only hon) (fun g hg e => by have := (iv7.own hg).1; injection e with e; omega)).lower (by omega), hbw.trans (hbel _ (by omega))⟩
set_option maxHeartbeats 4000000 in
theorem implFree_no0 {wd fl n : Int} {lost : Bool} {w : World} {a : Option Addr} (cap : Nat) {xs : List Int} (hp : plB wd fl xs = false) (smp : ISmp w.heap.size w a xs) : Calls Try.prog 29 #[.agg #[.int .i64 wd, .int .i64 fl, .slice a xs.length cap], .int .i64 n, .bool lost] w fun e w' => e = .returned (.agg #[.int .i64 0, .int .i64 0, .slice none 0 0]) ∧ Below w.heap.size w w' := by
  go_enter Try.func29, Try.ntmps29
  go_wp2_with (first
    | (go_at_call 22; refine (implPlaceOk_is cap hp (smp.here (by go_grown))).mono ?_; rintro e w3 ⟨rfl, hbw3⟩; have hbw : Below w.heap.size w w3 := below_two (by go_grown) hbw3; have kc := below_cells4 hbw3; have kf := below_frozens4 hbw3; have zl := hbw3.size; (try simp at zl); have p0 : w3.cell? ⟨w.heap.size, 0, none⟩ = some (.int .i64 wd) := (kc _ _ (by simp; try omega)).trans (by go_simp); have p1 : w3.cell? ⟨w.heap.size, 1, none⟩ = some (.int .i64 fl) := (kc _ _ (by simp; try omega)).trans (by go_simp); have p2 : w3.cell? ⟨w.heap.size, 2, none⟩ = some (.slice a xs.length cap) := (kc _ _ (by simp; try omega)).trans (by go_simp); have v0 : w3.cell? ⟨w.heap.size + 1, 0, none⟩ = some (.int .i64 0) := (kc _ _ (by simp; try omega)).trans (by go_simp); have v1 : w3.cell? ⟨w.heap.size + 1, 1, none⟩ = some (.int .i64 0) := (kc _ _ (by simp; try omega)).trans (by go_simp); have v2 : w3.cell? ⟨w.heap.size + 1, 2, none⟩ = some (.slice none 0 0) := (kc _ _ (by simp; try omega)).trans (by go_simp); have vz : ∀ o : Nat, w3.frozen? ⟨w.heap.size + 1, o, none⟩ = false := (fun o => (kf _ _ (by simp; try omega)).trans (by go_simp)); have pz : ∀ o : Nat, w3.frozen? ⟨w.heap.size, o, none⟩ = false := (fun o => (kf _ _ (by simp; try omega)).trans (by go_simp)); clear kc kf))
  obtain ⟨y, ey, cs, fzy, sz, hbel, hon⟩ := over3 (.int .i64 0) (.int .i64 0) (.slice none 0 0) (g := w.heap.size + 1) v0 v1 v2
  rw [← ey]
  refine bodyPost_ret (results_one rfl _ _ _ [.int .i64 0, .int .i64 0, .slice none 0 0] rfl cs Try.underlying37 rfl (by kernel_rfl)) rfl ?_
  exact ⟨rfl, hbw.trans (hbel _ (by omega))⟩
set_option maxHeartbeats 4000000 in
theorem implFree_no1 {wd fl n : Int} {lost : Bool} {w : World} {a : Option Addr} (cap : Nat) {xs : List Int} (hp : plB wd fl xs = true) (hn : inQ 1 n 1000000000 = false) (smp : ISmp w.heap.size w a xs) : Calls Try.prog 29 #[.agg #[.int .i64 wd, .int .i64 fl, .slice a xs.length cap], .int .i64 n, .bool lost] w fun e w' => e = .returned (.agg #[.int .i64 0, .int .i64 0, .slice none 0 0]) ∧ Below w.heap.size w w' := by
  go_enter Try.func29, Try.ntmps29
  go_wp2_with (first
    | (go_at_call 22; refine (implPlaceOk_is cap hp (smp.here (by go_grown))).mono ?_; rintro e w3 ⟨rfl, hbw3⟩; have hbw : Below w.heap.size w w3 := below_two (by go_grown) hbw3; have kc := below_cells4 hbw3; have kf := below_frozens4 hbw3; have zl := hbw3.size; (try simp at zl); have p0 : w3.cell? ⟨w.heap.size, 0, none⟩ = some (.int .i64 wd) := (kc _ _ (by simp; try omega)).trans (by go_simp); have p1 : w3.cell? ⟨w.heap.size, 1, none⟩ = some (.int .i64 fl) := (kc _ _ (by simp; try omega)).trans (by go_simp); have p2 : w3.cell? ⟨w.heap.size, 2, none⟩ = some (.slice a xs.length cap) := (kc _ _ (by simp; try omega)).trans (by go_simp); have v0 : w3.cell? ⟨w.heap.size + 1, 0, none⟩ = some (.int .i64 0) := (kc _ _ (by simp; try omega)).trans (by go_simp); have v1 : w3.cell? ⟨w.heap.size + 1, 1, none⟩ = some (.int .i64 0) := (kc _ _ (by simp; try omega)).trans (by go_simp); have v2 : w3.cell? ⟨w.heap.size + 1, 2, none⟩ = some (.slice none 0 0) := (kc _ _ (by simp; try omega)).trans (by go_simp); have vz : ∀ o : Nat, w3.frozen? ⟨w.heap.size + 1, o, none⟩ = false := (fun o => (kf _ _ (by simp; try omega)).trans (by go_simp)); have pz : ∀ o : Nat, w3.frozen? ⟨w.heap.size, o, none⟩ = false := (fun o => (kf _ _ (by simp; try omega)).trans (by go_simp)); clear kc kf)
    | (go_at_call 37; refine (iQ_is hn _).mono ?_; rintro e w4 ⟨rfl, rfl⟩))
  obtain ⟨y, ey, cs, fzy, sz, hbel, hon⟩ := over3 (.int .i64 0) (.int .i64 0) (.slice none 0 0) (g := w.heap.size + 1) v0 v1 v2
  rw [← ey]
  refine bodyPost_ret (results_one rfl _ _ _ [.int .i64 0, .int .i64 0, .slice none 0 0] rfl cs Try.underlying37 rfl (by kernel_rfl)) rfl ?_
  exact ⟨rfl, hbw.trans (hbel _ (by omega))⟩
set_option maxHeartbeats 4000000 in
theorem implFree_yes {wd fl n : Int} {lost : Bool} {w : World} {a : Option Addr} (cap : Nat) {xs : List Int} (hp : plB wd fl xs = true) (hn : inQ 1 n 1000000000 = true) (smp : ISmp w.heap.size w a xs) : Calls Try.prog 29 #[.agg #[.int .i64 wd, .int .i64 fl, .slice a xs.length cap], .int .i64 n, .bool lost] w (AnsP w xs (freeW wd n lost) (max 0 (fl - n))) := by
  obtain ⟨⟨q1, q2⟩, ⟨q3, q4⟩, q5⟩ := pl_num hp
  obtain ⟨q6, q7⟩ := inQ_num hn
  obtain ⟨f1, hf1⟩ : ∃ z, max 0 (fl - n) = z := ⟨_, rfl⟩
  obtain ⟨w1, hw1⟩ : ∃ z, freeW wd n lost = z := ⟨_, rfl⟩
  rw [hf1, hw1]
  go_enter Try.func29, Try.ntmps29
  go_upto_region 4 with (first
    | (go_at_call 22; refine (implPlaceOk_is cap hp (smp.here (by go_grown))).mono ?_; rintro e w3 ⟨rfl, hbw3⟩; have hbw : Below w.heap.size w w3 := below_two (by go_grown) hbw3; have kc := below_cells4 hbw3; have kf := below_frozens4 hbw3; have zl := hbw3.size; (try simp at zl); have p0 : w3.cell? ⟨w.heap.size, 0, none⟩ = some (.int .i64 wd) := (kc _ _ (by simp; try omega)).trans (by go_simp); have p1 : w3.cell? ⟨w.heap.size, 1, none⟩ = some (.int .i64 fl) := (kc _ _ (by simp; try omega)).trans (by go_simp); have p2 : w3.cell? ⟨w.heap.size, 2, none⟩ = some (.slice a xs.length cap) := (kc _ _ (by simp; try omega)).trans (by go_simp); have v0 : w3.cell? ⟨w.heap.size + 1, 0, none⟩ = some (.int .i64 0) := (kc _ _ (by simp; try omega)).trans (by go_simp); have v1 : w3.cell? ⟨w.heap.size + 1, 1, none⟩ = some (.int .i64 0) := (kc _ _ (by simp; try omega)).trans (by go_simp); have v2 : w3.cell? ⟨w.heap.size + 1, 2, none⟩ = some (.slice none 0 0) := (kc _ _ (by simp; try omega)).trans (by go_simp); have vz : ∀ o : Nat, w3.frozen? ⟨w.heap.size + 1, o, none⟩ = false := (fun o => (kf _ _ (by simp; try omega)).trans (by go_simp)); have pz : ∀ o : Nat, w3.frozen? ⟨w.heap.size, o, none⟩ = false := (fun o => (kf _ _ (by simp; try omega)).trans (by go_simp)); clear kc kf)
    | (go_at_call 37; refine (iQ_is hn _).mono ?_; rintro e w4 ⟨rfl, rfl⟩)
    | (go_at_call 63; refine (ownM_any cap (by omega) (smp.here hbw)).mono ?_; rintro e w5 ⟨a5, n5, c5, rfl, iv5, hb5⟩; have z3 := zl; have hbw : Below w.heap.size w w5 := below_two hbw hb5; have p0 := (hb5.cell (p := ⟨w.heap.size, 0, none⟩) (by show w.heap.size < _; omega)).trans p0; have p1 := (hb5.cell (p := ⟨w.heap.size, 1, none⟩) (by show w.heap.size < _; omega)).trans p1; have p2 := (hb5.cell (p := ⟨w.heap.size, 2, none⟩) (by show w.heap.size < _; omega)).trans p2; have v0 := (hb5.cell (p := ⟨w.heap.size + 1, 0, none⟩) (by show w.heap.size + 1 < _; omega)).trans v0; have v1 := (hb5.cell (p := ⟨w.heap.size + 1, 1, none⟩) (by show w.heap.size + 1 < _; omega)).trans v1; have v2 := (hb5.cell (p := ⟨w.heap.size + 1, 2, none⟩) (by show w.heap.size + 1 < _; omega)).trans v2; have vz : ∀ o : Nat, w5.frozen? ⟨w.heap.size + 1, o, none⟩ = false := fun o => (hb5.frozen (p := ⟨w.heap.size + 1, o, none⟩) (by show w.heap.size + 1 < _; omega)).trans (vz o); have zl : w.heap.size + 1 + 1 ≤ w5.heap.size := Nat.le_trans zl hb5.size; have pz : ∀ o : Nat, w5.frozen? ⟨w.heap.size, o, none⟩ = false := (fun o => (hb5.frozen (p := ⟨w.heap.size, o, none⟩) (by show w.heap.size < _; omega)).trans (pz o)))
    | (go_at_call 57; refine (less_any _ a5 n5 c5 hf1 ⟨⟨q3, q4⟩, by omega, q7⟩).mono ?_; rintro e w6 ⟨rfl, hb6⟩; have z5 := zl; have iv5 := iv5.next hb6; have hbw : Below w.heap.size w w6 := below_two hbw hb6; have p0 := (hb6.cell (p := ⟨w.heap.size, 0, none⟩) (by show w.heap.size < _; omega)).trans p0; have p1 := (hb6.cell (p := ⟨w.heap.size, 1, none⟩) (by show w.heap.size < _; omega)).trans p1; have p2 := (hb6.cell (p := ⟨w.heap.size, 2, none⟩) (by show w.heap.size < _; omega)).trans p2; have v0 := (hb6.cell (p := ⟨w.heap.size + 1, 0, none⟩) (by show w.heap.size + 1 < _; omega)).trans v0; have v1 := (hb6.cell (p := ⟨w.heap.size + 1, 1, none⟩) (by show w.heap.size + 1 < _; omega)).trans v1; have v2 := (hb6.cell (p := ⟨w.heap.size + 1, 2, none⟩) (by show w.heap.size + 1 < _; omega)).trans v2; have vz : ∀ o : Nat, w6.frozen? ⟨w.heap.size + 1, o, none⟩ = false := fun o => (hb6.frozen (p := ⟨w.heap.size + 1, o, none⟩) (by show w.heap.size + 1 < _; omega)).trans (vz o); have zl : w.heap.size + 1 + 1 ≤ w6.heap.size := Nat.le_trans zl hb6.size; have pz : ∀ o : Nat, w6.frozen? ⟨w.heap.size, o, none⟩ = false := (fun o => (hb6.frozen (p := ⟨w.heap.size, o, none⟩) (by show w.heap.size < _; omega)).trans (pz o))))
  obtain ⟨x6, ex6, cs6, fz6, sz6, hb6', on6⟩ := over3 (.int .i64 wd) (.int .i64 f1) (.slice a5 n5 c5) (w := w6) (g := w.heap.size) p0 p1 p2
  rw [← ex6]
  clear ex6 p0 p1 p2
  have p0 : x6.cell? ⟨w.heap.size, 0, none⟩ = some (.int .i64 wd) := cs6 0 _ rfl
  have p1 : x6.cell? ⟨w.heap.size, 1, none⟩ = some (.int .i64 f1) := cs6 1 _ rfl
  have p2 : x6.cell? ⟨w.heap.size, 2, none⟩ = some (.slice a5 n5 c5) := cs6 2 _ rfl
  have v0 := (on6.cell (p := ⟨w.heap.size + 1, 0, none⟩) (by show w.heap.size + 1 < _; omega) (by show w.heap.size + 1 ≠ _; omega)).trans v0
  have v1 := (on6.cell (p := ⟨w.heap.size + 1, 1, none⟩) (by show w.heap.size + 1 < _; omega) (by show w.heap.size + 1 ≠ _; omega)).trans v1
  have v2 := (on6.cell (p := ⟨w.heap.size + 1, 2, none⟩) (by show w.heap.size + 1 < _; omega) (by show w.heap.size + 1 ≠ _; omega)).trans v2
  have pz : ∀ o : Nat, x6.frozen? ⟨w.heap.size, o, none⟩ = false := fun o => (fz6 _ _).trans (pz o)
  have vz : ∀ o : Nat, x6.frozen? ⟨w.heap.size + 1, o, none⟩ = false := fun o => (fz6 _ _).trans (vz o)
  have hbw : Below w.heap.size w x6 := hbw.trans (hb6' _ (Nat.le_refl _))
  have zl : w.heap.size + 1 + 1 ≤ x6.heap.size := by rw [sz6]; exact zl
  have iv6 := iv5.onlyO (OnlyO.of_only on6) (fun g hg e => by have := (iv5.own hg).1; injection e with e; omega)
  clear cs6 fz6 sz6 hb6' on6
  cases lost
  · have hw1 : min 1000000000 (wd + n * 1500 / wd) = w1 := hw1
    have p0' : 0 ≤ n * 1500 := by omega
    have ed := tdiv10 (x := n * 1500) p0' wd
    have rw1 : IntKind.i64.wrap (n * 1500) = n * 1500 := by rw [IntKind.wrap_i64]; omega
    have dv : 0 ≤ n * 1500 / wd ∧ n * 1500 / wd ≤ n * 1500 := ⟨Int.ediv_nonneg (by omega) (by omega), Int.ediv_le_self _ (by omega)⟩
    obtain ⟨dz, hdz⟩ : ∃ z, n * 1500 / wd = z := ⟨_, rfl⟩
    rw [hdz] at ed dv hw1
    have rw2 : IntKind.i64.wrap dz = dz := by rw [IntKind.wrap_i64]; omega
    have rw3 : IntKind.i64.wrap (wd + dz) = wd + dz := by rw [IntKind.wrap_i64]; omega
    have wz : ¬ wd = 0 := by omega
    have wz' : (wd == 0) = false := beq_eq_false_iff_ne.2 wz
    clear hdz
    go_upto_region 6 with (fail)
    have D7 : Below x6.heap.size x6 x6.drew := (Below.refl _ _).drew
    have hS0 : (fun w' => w'.cell? ⟨w.heap.size, 0, none⟩ = some (.int .i64 wd) ∧ w'.cell? ⟨w.heap.size, 1, none⟩ = some (.int .i64 f1) ∧ w'.cell? ⟨w.heap.size, 2, none⟩ = some (.slice a5 n5 c5)) x6.drew := ⟨by simpa using p0, by simpa using p1, by simpa using p2⟩
    rcases Int.lt_or_le 1000000000 (wd + dz) with hc | hc
    · obtain rfl : w1 = 1000000000 := by omega
      have hc' : ¬ (wd + dz ≤ 1000000000) := by omega
      refine region_late (S := fun w' => w'.cell? ⟨w.heap.size, 0, none⟩ = some (.int .i64 wd) ∧ w'.cell? ⟨w.heap.size, 1, none⟩ = some (.int .i64 f1) ∧ w'.cell? ⟨w.heap.size, 2, none⟩ = some (.slice a5 n5 c5)) 10 (by kernel_rfl) hS0 (fun hS => ?_)
      refine late_take (i := 0) (v := ?_) rfl (by kernel_rfl) (by kernel_rfl) (by kernel_rfl) (by kernel_rfl) (fun _ _ _ h => h) (Or.inl ⟨by rfl, ?_⟩) (by assumption) ?_
      rotate_left 1
      · (intro w' hSw; (try dsimp only at hSw); go_simp; try with_reducible rfl)
      try simp only [Act.put, List.setIfInBounds_toArray, List.set_cons_zero, List.set_cons_succ, List.getElem_toArray, List.getElem_cons_succ, List.getElem_cons_zero]
      refine late_take (i := 1) (v := ?_) rfl (by kernel_rfl) (by kernel_rfl) (by kernel_rfl) (by kernel_rfl) (fun _ _ _ h => h) (Or.inl ⟨by rfl, ?_⟩) (by assumption) ?_
      rotate_left 1
      · (intro w' hSw; (try dsimp only at hSw); go_simp; try with_reducible rfl)
      try simp only [Act.put, List.setIfInBounds_toArray, List.set_cons_zero, List.set_cons_succ, List.getElem_toArray, List.getElem_cons_succ, List.getElem_cons_zero]
      refine late_take (i := 2) (v := ?_) rfl (by kernel_rfl) (by kernel_rfl) (by kernel_rfl) (by kernel_rfl) (fun _ _ _ h => h) (Or.inl ⟨by rfl, ?_⟩) (by assumption) ?_
      rotate_left 1
      · (intro w' hSw; (try dsimp only at hSw); go_simp; try with_reducible rfl)
      try simp only [Act.put, List.setIfInBounds_toArray, List.set_cons_zero, List.set_cons_succ, List.getElem_toArray, List.getElem_cons_succ, List.getElem_cons_zero]
      refine late_take (i := 3) (v := ?_) rfl (by kernel_rfl) (by kernel_rfl) (by kernel_rfl) (by kernel_rfl) (fun _ _ _ h => h) (Or.inl ⟨by rfl, ?_⟩) (by assumption) ?_
      rotate_left 1
      · (intro w' hSw; (try dsimp only at hSw); go_simp; try with_reducible rfl)
      try simp only [Act.put, List.setIfInBounds_toArray, List.set_cons_zero, List.set_cons_succ, List.getElem_toArray, List.getElem_cons_succ, List.getElem_cons_zero]
      refine late_take (i := 4) (v := ?_) rfl (by kernel_rfl) (by kernel_rfl) (by kernel_rfl) (by kernel_rfl) (fun _ _ _ h => h) (Or.inl ⟨by rfl, ?_⟩) (by assumption) ?_
      rotate_left 1
      · (intro w' hSw; (try dsimp only at hSw); go_simp; try with_reducible rfl)
      try simp only [Act.put, List.setIfInBounds_toArray, List.set_cons_zero, List.set_cons_succ, List.getElem_toArray, List.getElem_cons_succ, List.getElem_cons_zero]
      refine late_take (i := 5) (v := ?_) rfl (by kernel_rfl) (by kernel_rfl) (by kernel_rfl) (by kernel_rfl) (fun _ _ _ h => h) (Or.inl ⟨by rfl, ?_⟩) (by assumption) ?_
      rotate_left 1
      · (intro w' hSw; (try dsimp only at hSw); go_simp; try with_reducible rfl)
      try simp only [Act.put, List.setIfInBounds_toArray, List.set_cons_zero, List.set_cons_succ, List.getElem_toArray, List.getElem_cons_succ, List.getElem_cons_zero]
      refine late_take (i := 6) (v := ?_) rfl (by kernel_rfl) (by kernel_rfl) (by kernel_rfl) (by kernel_rfl) (fun _ _ _ h => h) (Or.inl ⟨by rfl, ?_⟩) (by assumption) ?_
      rotate_left 1
      · (intro w' hSw; (try dsimp only at hSw); go_simp; try with_reducible rfl)
      try simp only [Act.put, List.setIfInBounds_toArray, List.set_cons_zero, List.set_cons_succ, List.getElem_toArray, List.getElem_cons_succ, List.getElem_cons_zero]
      refine late_take (i := 7) (v := ?_) rfl (by kernel_rfl) (by kernel_rfl) (by kernel_rfl) (by kernel_rfl) (fun _ _ _ h => h) (Or.inl ⟨by rfl, ?_⟩) (by assumption) ?_
      rotate_left 1
      · (intro w' hSw; (try dsimp only at hSw); go_simp; try with_reducible rfl)
      try simp only [Act.put, List.setIfInBounds_toArray, List.set_cons_zero, List.set_cons_succ, List.getElem_toArray, List.getElem_cons_succ, List.getElem_cons_zero]
      refine late_take (i := 8) (v := ?_) rfl (by kernel_rfl) (by kernel_rfl) (by kernel_rfl) (by kernel_rfl) (fun _ _ _ h => h) (Or.inl ⟨by rfl, ?_⟩) (by assumption) ?_
      rotate_left 1
      · (intro w' hSw; (try dsimp only at hSw); go_simp; try with_reducible rfl)
      try simp only [Act.put, List.setIfInBounds_toArray, List.set_cons_zero, List.set_cons_succ, List.getElem_toArray, List.getElem_cons_succ, List.getElem_cons_zero]
      refine late_take (i := 9) (v := ?_) rfl (by kernel_rfl) (by kernel_rfl) (by kernel_rfl) (by kernel_rfl) (fun _ _ _ h => h) (Or.inl ⟨by rfl, ?_⟩) (by assumption) ?_
      rotate_left 1
      · (intro w' hSw; (try dsimp only at hSw); go_simp; try with_reducible rfl)
      try simp only [Act.put, List.setIfInBounds_toArray, List.set_cons_zero, List.set_cons_succ, List.getElem_toArray, List.getElem_cons_succ, List.getElem_cons_zero]
      refine late_last (by kernel_rfl) rfl (by kernel_rfl) (fun K hK => ?_)
      go_simp
      refine hK.out _ _ ?_
      try simp only [Act.put, List.setIfInBounds_toArray, List.set_cons_zero, List.set_cons_succ, List.getElem_toArray, List.getElem_cons_succ, List.getElem_cons_zero]
      obtain ⟨x8, hx7⟩ : ∃ x, x = (x6.setCell ⟨w.heap.size, 0, none⟩ (.int .i64 1000000000)).drew := ⟨_, rfl⟩
      rw [← hx7]
      have oX : Only w.heap.size x6 x8 := by rw [hx7]; exact ((Only.refl _ x6).setCell (p := ⟨w.heap.size, 0, none⟩) rfl _).trans (Only.of_below (Below.refl _ _).drew)
      have p0 : x8.cell? ⟨w.heap.size, 0, none⟩ = some (.int .i64 1000000000) := by rw [hx7]; simp only [World.cell?_drew]; exact set_same4 _ p0
      have p1 : x8.cell? ⟨w.heap.size, 1, none⟩ = some (.int .i64 f1) := by rw [hx7]; simp only [World.cell?_drew]; exact (set_other4 (by decide)).trans p1
      have p2 : x8.cell? ⟨w.heap.size, 2, none⟩ = some (.slice a5 n5 c5) := by rw [hx7]; simp only [World.cell?_drew]; exact (set_other4 (by decide)).trans p2
      have v0 := (oX.cell (p := ⟨w.heap.size + 1, 0, none⟩) (by show w.heap.size + 1 < _; omega) (by show w.heap.size + 1 ≠ _; omega)).trans v0
      have v1 := (oX.cell (p := ⟨w.heap.size + 1, 1, none⟩) (by show w.heap.size + 1 < _; omega) (by show w.heap.size + 1 ≠ _; omega)).trans v1
      have v2 := (oX.cell (p := ⟨w.heap.size + 1, 2, none⟩) (by show w.heap.size + 1 < _; omega) (by show w.heap.size + 1 ≠ _; omega)).trans v2
      have vz : ∀ o : Nat, x8.frozen? ⟨w.heap.size + 1, o, none⟩ = false := fun o => (oX.frozen (p := ⟨w.heap.size + 1, o, none⟩) (by show w.heap.size + 1 < _; omega) (by show w.heap.size + 1 ≠ _; omega)).trans (vz o)
      have hbw : Below w.heap.size w x8 := hbw.trans (oX.below (Nat.le_refl _) (by omega))
      have iv8 := iv6.onlyO (OnlyO.of_only oX) (fun g hg e => by have := (iv6.own hg).1; injection e with e; omega)
      have zl := Nat.le_trans zl oX.size
      clear hx7 oX
      go_wp2
      obtain ⟨y, ey, cs, fzy, sz, hbel, hon⟩ := over3 (.int .i64 1000000000) (.int .i64 f1) (.slice a5 n5 c5) (g := w.heap.size + 1) v0 v1 v2
      rw [← ey]
      refine bodyPost_ret (results_one rfl _ _ _ [.int .i64 1000000000, .int .i64 f1, .slice a5 n5 c5] rfl cs Try.underlying37 rfl (by kernel_rfl)) rfl ?_
      exact ⟨_, _, _, rfl, (iv8.onlyO (OnlyO.of_only hon) (fun g hg e => by have := (iv8.own hg).1; injection e with e; omega)).lower (by omega), hbw.trans (hbel _ (by omega))⟩
    · obtain rfl : w1 = wd + dz := by omega
      have hc' : ¬ (1000000000 < wd + dz) := by omega
      refine region_late (S := fun w' => w'.cell? ⟨w.heap.size, 0, none⟩ = some (.int .i64 wd) ∧ w'.cell? ⟨w.heap.size, 1, none⟩ = some (.int .i64 f1) ∧ w'.cell? ⟨w.heap.size, 2, none⟩ = some (.slice a5 n5 c5)) 10 (by kernel_rfl) hS0 (fun hS => ?_)
      refine late_take (i := 0) (v := ?_) rfl (by kernel_rfl) (by kernel_rfl) (by kernel_rfl) (by kernel_rfl) (fun _ _ _ h => h) (Or.inl ⟨by rfl, ?_⟩) (by assumption) ?_
      rotate_left 1
      · (intro w' hSw; (try dsimp only at hSw); go_simp; try with_reducible rfl)
      try simp only [Act.put, List.setIfInBounds_toArray, List.set_cons_zero, List.set_cons_succ, List.getElem_toArray, List.getElem_cons_succ, List.getElem_cons_zero]
      refine late_take (i := 1) (v := ?_) rfl (by kernel_rfl) (by kernel_rfl) (by kernel_rfl) (by kernel_rfl) (fun _ _ _ h => h) (Or.inl ⟨by rfl, ?_⟩) (by assumption) ?_
      rotate_left 1
      · (intro w' hSw; (try dsimp only at hSw); go_simp; try with_reducible rfl)
      try simp only [Act.put, List.setIfInBounds_toArray, List.set_cons_zero, List.set_cons_succ, List.getElem_toArray, List.getElem_cons_succ, List.getElem_cons_zero]
      refine late_take (i := 2) (v := ?_) rfl (by kernel_rfl) (by kernel_rfl) (by kernel_rfl) (by kernel_rfl) (fun _ _ _ h => h) (Or.inl ⟨by rfl, ?_⟩) (by assumption) ?_
      rotate_left 1
      · (intro w' hSw; (try dsimp only at hSw); go_simp; try with_reducible rfl)
      try simp only [Act.put, List.setIfInBounds_toArray, List.set_cons_zero, List.set_cons_succ, List.getElem_toArray, List.getElem_cons_succ, List.getElem_cons_zero]
      refine late_take (i := 3) (v := ?_) rfl (by kernel_rfl) (by kernel_rfl) (by kernel_rfl) (by kernel_rfl) (fun _ _ _ h => h) (Or.inl ⟨by rfl, ?_⟩) (by assumption) ?_
      rotate_left 1
      · (intro w' hSw; (try dsimp only at hSw); go_simp; try with_reducible rfl)
      try simp only [Act.put, List.setIfInBounds_toArray, List.set_cons_zero, List.set_cons_succ, List.getElem_toArray, List.getElem_cons_succ, List.getElem_cons_zero]
      refine late_take (i := 4) (v := ?_) rfl (by kernel_rfl) (by kernel_rfl) (by kernel_rfl) (by kernel_rfl) (fun _ _ _ h => h) (Or.inl ⟨by rfl, ?_⟩) (by assumption) ?_
      rotate_left 1
      · (intro w' hSw; (try dsimp only at hSw); go_simp; try with_reducible rfl)
      try simp only [Act.put, List.setIfInBounds_toArray, List.set_cons_zero, List.set_cons_succ, List.getElem_toArray, List.getElem_cons_succ, List.getElem_cons_zero]
      refine late_take (i := 5) (v := ?_) rfl (by kernel_rfl) (by kernel_rfl) (by kernel_rfl) (by kernel_rfl) (fun _ _ _ h => h) (Or.inl ⟨by rfl, ?_⟩) (by assumption) ?_
      rotate_left 1
      · (intro w' hSw; (try dsimp only at hSw); go_simp; try with_reducible rfl)
      try simp only [Act.put, List.setIfInBounds_toArray, List.set_cons_zero, List.set_cons_succ, List.getElem_toArray, List.getElem_cons_succ, List.getElem_cons_zero]
      refine late_take (i := 6) (v := ?_) rfl (by kernel_rfl) (by kernel_rfl) (by kernel_rfl) (by kernel_rfl) (fun _ _ _ h => h) (Or.inl ⟨by rfl, ?_⟩) (by assumption) ?_
      rotate_left 1
      · (intro w' hSw; (try dsimp only at hSw); go_simp; try with_reducible rfl)
      try simp only [Act.put, List.setIfInBounds_toArray, List.set_cons_zero, List.set_cons_succ, List.getElem_toArray, List.getElem_cons_succ, List.getElem_cons_zero]
      refine late_take (i := 7) (v := ?_) rfl (by kernel_rfl) (by kernel_rfl) (by kernel_rfl) (by kernel_rfl) (fun _ _ _ h => h) (Or.inl ⟨by rfl, ?_⟩) (by assumption) ?_
      rotate_left 1
      · (intro w' hSw; (try dsimp only at hSw); go_simp; try with_reducible rfl)
      try simp only [Act.put, List.setIfInBounds_toArray, List.set_cons_zero, List.set_cons_succ, List.getElem_toArray, List.getElem_cons_succ, List.getElem_cons_zero]
      refine late_take (i := 8) (v := ?_) rfl (by kernel_rfl) (by kernel_rfl) (by kernel_rfl) (by kernel_rfl) (fun _ _ _ h => h) (Or.inl ⟨by rfl, ?_⟩) (by assumption) ?_
      rotate_left 1
      · (intro w' hSw; (try dsimp only at hSw); go_simp; try with_reducible rfl)
      try simp only [Act.put, List.setIfInBounds_toArray, List.set_cons_zero, List.set_cons_succ, List.getElem_toArray, List.getElem_cons_succ, List.getElem_cons_zero]
      refine late_take (i := 9) (v := ?_) rfl (by kernel_rfl) (by kernel_rfl) (by kernel_rfl) (by kernel_rfl) (fun _ _ _ h => h) (Or.inl ⟨by rfl, ?_⟩) (by assumption) ?_
      rotate_left 1
      · (intro w' hSw; (try dsimp only at hSw); go_simp; try with_reducible rfl)
      try simp only [Act.put, List.setIfInBounds_toArray, List.set_cons_zero, List.set_cons_succ, List.getElem_toArray, List.getElem_cons_succ, List.getElem_cons_zero]
      refine late_last (by kernel_rfl) rfl (by kernel_rfl) (fun K hK => ?_)
      go_simp
      refine hK.out _ _ ?_
      try simp only [Act.put, List.setIfInBounds_toArray, List.set_cons_zero, List.set_cons_succ, List.getElem_toArray, List.getElem_cons_succ, List.getElem_cons_zero]
      obtain ⟨x8, hx7⟩ : ∃ x, x = (x6.setCell ⟨w.heap.size, 0, none⟩ (.int .i64 (wd + dz))).drew := ⟨_, rfl⟩
      rw [← hx7]
      have oX : Only w.heap.size x6 x8 := by rw [hx7]; exact ((Only.refl _ x6).setCell (p := ⟨w.heap.size, 0, none⟩) rfl _).trans (Only.of_below (Below.refl _ _).drew)
      have p0 : x8.cell? ⟨w.heap.size, 0, none⟩ = some (.int .i64 (wd + dz)) := by rw [hx7]; simp only [World.cell?_drew]; exact set_same4 _ p0
      have p1 : x8.cell? ⟨w.heap.size, 1, none⟩ = some (.int .i64 f1) := by rw [hx7]; simp only [World.cell?_drew]; exact (set_other4 (by decide)).trans p1
      have p2 : x8.cell? ⟨w.heap.size, 2, none⟩ = some (.slice a5 n5 c5) := by rw [hx7]; simp only [World.cell?_drew]; exact (set_other4 (by decide)).trans p2
      have v0 := (oX.cell (p := ⟨w.heap.size + 1, 0, none⟩) (by show w.heap.size + 1 < _; omega) (by show w.heap.size + 1 ≠ _; omega)).trans v0
      have v1 := (oX.cell (p := ⟨w.heap.size + 1, 1, none⟩) (by show w.heap.size + 1 < _; omega) (by show w.heap.size + 1 ≠ _; omega)).trans v1
      have v2 := (oX.cell (p := ⟨w.heap.size + 1, 2, none⟩) (by show w.heap.size + 1 < _; omega) (by show w.heap.size + 1 ≠ _; omega)).trans v2
      have vz : ∀ o : Nat, x8.frozen? ⟨w.heap.size + 1, o, none⟩ = false := fun o => (oX.frozen (p := ⟨w.heap.size + 1, o, none⟩) (by show w.heap.size + 1 < _; omega) (by show w.heap.size + 1 ≠ _; omega)).trans (vz o)
      have hbw : Below w.heap.size w x8 := hbw.trans (oX.below (Nat.le_refl _) (by omega))
      have iv8 := iv6.onlyO (OnlyO.of_only oX) (fun g hg e => by have := (iv6.own hg).1; injection e with e; omega)
      have zl := Nat.le_trans zl oX.size
      clear hx7 oX
      go_wp2
      obtain ⟨y, ey, cs, fzy, sz, hbel, hon⟩ := over3 (.int .i64 (wd + dz)) (.int .i64 f1) (.slice a5 n5 c5) (g := w.heap.size + 1) v0 v1 v2
      rw [← ey]
      refine bodyPost_ret (results_one rfl _ _ _ [.int .i64 (wd + dz), .int .i64 f1, .slice a5 n5 c5] rfl cs Try.underlying37 rfl (by kernel_rfl)) rfl ?_
      exact ⟨_, _, _, rfl, (iv8.onlyO (OnlyO.of_only hon) (fun g hg e => by have := (iv8.own hg).1; injection e with e; omega)).lower (by omega), hbw.trans (hbel _ (by omega))⟩
  · have hw1 : max 3000 (wd / 2) = w1 := hw1
    have ed := tdiv10 (x := wd) (by omega) 2
    have rd : IntKind.i64.wrap (wd / 2) = wd / 2 := by rw [IntKind.wrap_i64]; omega
    rcases Int.lt_or_le (wd / 2) 3000 with hc | hc
    · obtain rfl : w1 = 3000 := by omega
      go_upto_region 7 with (fail)
      obtain ⟨x8, hx7⟩ : ∃ x, x = (x6.setCell ⟨w.heap.size, 0, none⟩ (.int .i64 3000)) := ⟨_, rfl⟩
      rw [← hx7]
      have oX : Only w.heap.size x6 x8 := by rw [hx7]; exact ((Only.refl _ x6).setCell (p := ⟨w.heap.size, 0, none⟩) rfl _)
      have p0 : x8.cell? ⟨w.heap.size, 0, none⟩ = some (.int .i64 3000) := by rw [hx7]; exact set_same4 _ p0
      have p1 : x8.cell? ⟨w.heap.size, 1, none⟩ = some (.int .i64 f1) := by rw [hx7]; exact (set_other4 (by decide)).trans p1
      have p2 : x8.cell? ⟨w.heap.size, 2, none⟩ = some (.slice a5 n5 c5) := by rw [hx7]; exact (set_other4 (by decide)).trans p2
      have v0 := (oX.cell (p := ⟨w.heap.size + 1, 0, none⟩) (by show w.heap.size + 1 < _; omega) (by show w.heap.size + 1 ≠ _; omega)).trans v0
      have v1 := (oX.cell (p := ⟨w.heap.size + 1, 1, none⟩) (by show w.heap.size + 1 < _; omega) (by show w.heap.size + 1 ≠ _; omega)).trans v1
      have v2 := (oX.cell (p := ⟨w.heap.size + 1, 2, none⟩) (by show w.heap.size + 1 < _; omega) (by show w.heap.size + 1 ≠ _; omega)).trans v2
      have vz : ∀ o : Nat, x8.frozen? ⟨w.heap.size + 1, o, none⟩ = false := fun o => (oX.frozen (p := ⟨w.heap.size + 1, o, none⟩) (by show w.heap.size + 1 < _; omega) (by show w.heap.size + 1 ≠ _; omega)).trans (vz o)
      have hbw : Below w.heap.size w x8 := hbw.trans (oX.below (Nat.le_refl _) (by omega))
      have iv8 := iv6.onlyO (OnlyO.of_only oX) (fun g hg e => by have := (iv6.own hg).1; injection e with e; omega)
      have zl := Nat.le_trans zl oX.size
      clear hx7 oX
      go_wp2
      obtain ⟨y, ey, cs, fzy, sz, hbel, hon⟩ := over3 (.int .i64 3000) (.int .i64 f1) (.slice a5 n5 c5) (g := w.heap.size + 1) v0 v1 v2
      rw [← ey]
      refine bodyPost_ret (results_one rfl _ _ _ [.int .i64 3000, .int .i64 f1, .slice a5 n5 c5] rfl cs Try.underlying37 rfl (by kernel_rfl)) rfl ?_
      exact ⟨_, _, _, rfl, (iv8.onlyO (OnlyO.of_only hon) (fun g hg e => by have := (iv8.own hg).1; injection e with e; omega)).lower (by omega), hbw.trans (hbel _ (by omega))⟩
    · obtain rfl : w1 = wd / 2 := by omega
      go_upto_region 7 with (fail)
      obtain ⟨x8, hx7⟩ : ∃ x, x = (x6.setCell ⟨w.heap.size, 0, none⟩ (.int .i64 (wd / 2))) := ⟨_, rfl⟩
      rw [← hx7]
      have oX : Only w.heap.size x6 x8 := by rw [hx7]; exact ((Only.refl _ x6).setCell (p := ⟨w.heap.size, 0, none⟩) rfl _)
      have p0 : x8.cell? ⟨w.heap.size, 0, none⟩ = some (.int .i64 (wd / 2)) := by rw [hx7]; exact set_same4 _ p0
      have p1 : x8.cell? ⟨w.heap.size, 1, none⟩ = some (.int .i64 f1) := by rw [hx7]; exact (set_other4 (by decide)).trans p1
      have p2 : x8.cell? ⟨w.heap.size, 2, none⟩ = some (.slice a5 n5 c5) := by rw [hx7]; exact (set_other4 (by decide)).trans p2
      have v0 := (oX.cell (p := ⟨w.heap.size + 1, 0, none⟩) (by show w.heap.size + 1 < _; omega) (by show w.heap.size + 1 ≠ _; omega)).trans v0
      have v1 := (oX.cell (p := ⟨w.heap.size + 1, 1, none⟩) (by show w.heap.size + 1 < _; omega) (by show w.heap.size + 1 ≠ _; omega)).trans v1
      have v2 := (oX.cell (p := ⟨w.heap.size + 1, 2, none⟩) (by show w.heap.size + 1 < _; omega) (by show w.heap.size + 1 ≠ _; omega)).trans v2
      have vz : ∀ o : Nat, x8.frozen? ⟨w.heap.size + 1, o, none⟩ = false := fun o => (oX.frozen (p := ⟨w.heap.size + 1, o, none⟩) (by show w.heap.size + 1 < _; omega) (by show w.heap.size + 1 ≠ _; omega)).trans (vz o)
      have hbw : Below w.heap.size w x8 := hbw.trans (oX.below (Nat.le_refl _) (by omega))
      have iv8 := iv6.onlyO (OnlyO.of_only oX) (fun g hg e => by have := (iv6.own hg).1; injection e with e; omega)
      have zl := Nat.le_trans zl oX.size
      clear hx7 oX
      go_wp2
      obtain ⟨y, ey, cs, fzy, sz, hbel, hon⟩ := over3 (.int .i64 (wd / 2)) (.int .i64 f1) (.slice a5 n5 c5) (g := w.heap.size + 1) v0 v1 v2
      rw [← ey]
      refine bodyPost_ret (results_one rfl _ _ _ [.int .i64 (wd / 2), .int .i64 f1, .slice a5 n5 c5] rfl cs Try.underlying37 rfl (by kernel_rfl)) rfl ?_
      exact ⟨_, _, _, rfl, (iv8.onlyO (OnlyO.of_only hon) (fun g hg e => by have := (iv8.own hg).1; injection e with e; omega)).lower (by omega), hbw.trans (hbel _ (by omega))⟩
end Go.Proofs.Ytoeiheccmpjclaf

/- What impl's PlaceOk, Room and Share answer, and a Place with a list of its own. -/
import Derived.Test.YtoeiheccmpjclaqSpecPlc3
import Derived.Test.YtoeiheccmpjclaqImplIn
import Derived.Laws.CopyOwn
import Derived.Laws.OwnMore
import Derived.Shelf.Abstract
namespace Go.Proofs.Ytoeiheccmpjclaq
open Go.ChangeShapes Go.WideShapes Go.ChangeAt Go.RowKit
set_option maxRecDepth 100000
set_option linter.unusedVariables false
set_option linter.unusedSimpArgs false

theorem iQ_is {lo x hi : Int} {f : Bool} (h : inQ lo x hi = f) (w : World) : Calls Try.prog 49 #[.int .i64 x, .int .i64 lo, .int .i64 hi] w fun e w' => e = .returned (.bool f) ∧ w' = w := by subst h; exact iwithin_any lo x hi w
theorem iId_is {x : Int} {f : Bool} (h : inQ 0 x 1000000 = f) (w : World) : Calls Try.prog 86 #[.int .i64 x] w fun e w' => e = .returned (.bool f) ∧ w' = w := by
  go_enter Try.func86, Try.ntmps86
  go_wp2_with (first
    | (go_at_call 49; refine (iQ_is h _).mono ?_; rintro e w2 ⟨rfl, rfl⟩))
  go_ret
  exact ⟨rfl, rfl⟩
open Classical in
noncomputable def risB (xs : List Int) : Bool := decide (MemTo xs xs.length)
open Classical in
theorem ris_true {xs : List Int} (h : MemTo xs xs.length) : risB xs = true := by
  unfold risB
  exact decide_eq_true h
open Classical in
theorem ris_false {xs : List Int} (h : ¬ MemTo xs xs.length) : risB xs = false := by
  unfold risB
  exact decide_eq_false h
open Classical in
theorem ris_yes {xs : List Int} (h : risB xs = true) : MemTo xs xs.length := by
  unfold risB at h
  exact of_decide_eq_true h
open Classical in
theorem ris_no {xs : List Int} (h : risB xs = false) : ¬ MemTo xs xs.length := by
  unfold risB at h
  exact of_decide_eq_false h
set_option maxHeartbeats 4000000 in
theorem rising_any {w : World} {a : Option Addr} (cap : Nat) {xs : List Int} (hl : xs.length ≤ 50) (smp : ISmp w.heap.size w a xs) : Calls Try.prog 58 #[.slice a xs.length cap] w fun e w' => e = .returned (.bool (risB xs)) ∧ w' = w := by
  obtain ⟨f, hf⟩ : ∃ f, risB xs = f := ⟨_, rfl⟩
  rw [hf]
  go_enter Try.func58, Try.ntmps58
  go_wp2
  go_loop [7] (fun i => ∃ (k : Nat), i = .int .i64 k ∧ k ≤ xs.length ∧ MemTo xs k) (fun i => xs.length - (intOf i).toNat)
  case atStart => exact ⟨0, rfl, by omega, MemTo.zero xs⟩
  case round =>
    obtain ⟨k, rfl, hk, hM⟩ := hrel
    by_cases hlt : k < xs.length
    · have hlt' : (k : Int) < (xs.length : Int) := by omega
      have hk0 : (0 : Int) ≤ (k : Int) := by omega
      cases h3 : inQ 0 xs[k] 1000000
      · obtain rfl : f = false := by
          rw [← hf]
          refine ris_false (fun h => ?_)
          have := (h k hlt hlt).1
          unfold inQ at h3
          simp [this.1, this.2] at h3
        obtain ⟨b, off, rfl, hb, c0⟩ := smp k hlt
        obtain ⟨y, hy⟩ : ∃ y, xs[k] = y := ⟨_, rfl⟩
        rw [hy] at c0 h3
        clear hy hf
        go_wp2_with (first
          | (go_at_call 86; refine (iId_is h3 _).mono ?_; rintro e w2 ⟨rfl, rfl⟩))
        go_ret
        exact ⟨rfl, rfl⟩
      have h3n : 0 ≤ xs[k] ∧ xs[k] ≤ 1000000 := by
        unfold inQ at h3
        simp only [Bool.and_eq_true, decide_eq_true_eq] at h3
        exact h3
      by_cases hz : k = 0
      · subst hz
        have hN : MemTo xs 1 := hM.next hlt h3n (fun j hj e => by omega)
        obtain ⟨b, off, rfl, hb, c0⟩ := smp 0 hlt
        have hlt0 : (0 : Int) < (xs.length : Int) := by omega
        obtain ⟨y, hy⟩ : ∃ y, xs[0] = y := ⟨_, rfl⟩
        rw [hy] at c0 h3
        rw [Nat.add_zero] at c0
        clear hy h3n
        go_wp2_with (first
          | (go_at_call 86; refine (iId_is h3 _).mono ?_; rintro e w2 ⟨rfl, rfl⟩))
        go_round
        case rel => exact ⟨1, by go_num, by omega, hN⟩
        case measure => first | (simp [intOf]; done) | (simp [intOf]; omega)
      obtain ⟨l, rfl⟩ : ∃ l, k = l + 1 := ⟨k - 1, by omega⟩
      have hl1 : IntKind.i64.wrap ((l : Int) + 1 - 1) = (l : Int) := by rw [IntKind.wrap_i64]; omega
      have hl2 : IntKind.i64.wrap (((l + 1 : Nat) : Int) - 1) = (l : Int) := by rw [IntKind.wrap_i64]; omega
      have hl3 : (l : Int) < (xs.length : Int) := by omega
      have hl4 : (0 : Int) < ((l + 1 : Nat) : Int) := by omega
      have hl5 : (0 : Int) < (l : Int) + 1 := by omega
      have hl6 : IntKind.i64.wrap (l : Int) = (l : Int) := by rw [IntKind.wrap_i64]; omega
      obtain ⟨b, off, rfl, hb, c0⟩ := smp (l + 1) hlt
      obtain ⟨b', off', e', hb', c1⟩ := smp l (by omega)
      injection e' with e'
      injection e' with e1 e2
      subst e1 e2
      obtain ⟨y, hy⟩ : ∃ y, xs[l + 1] = y := ⟨_, rfl⟩
      obtain ⟨z, hzz⟩ : ∃ z, xs[l] = z := ⟨_, rfl⟩
      by_cases h4 : y ≤ z
      · obtain rfl : f = false := by
          rw [← hf]
          refine ris_false (fun h => ?_)
          have := (h (l + 1) hlt hlt).2 l (by omega) rfl
          rw [hy, hzz] at this
          omega
        rw [hy] at c0 h3
        rw [hzz] at c1
        clear hy hzz hf h3n
        go_wp2_with (first
          | (go_at_call 86; refine (iId_is h3 _).mono ?_; rintro e w2 ⟨rfl, rfl⟩))
        go_ret
        exact ⟨rfl, rfl⟩
      · have hN : MemTo xs (l + 1 + 1) := hM.next hlt h3n (fun j hj e => by obtain rfl : j = l := (by omega); rw [hy, hzz]; omega)
        rw [hy] at c0 h3
        rw [hzz] at c1
        clear hy hzz h3n
        go_wp2_with (first
          | (go_at_call 86; refine (iId_is h3 _).mono ?_; rintro e w2 ⟨rfl, rfl⟩))
        go_round
        case rel => exact ⟨l + 1 + 1, by go_num, by omega, hN⟩
        case measure => first | (simp [intOf]; done) | (simp [intOf]; omega)
    · have e : k = xs.length := by omega
      subst e
      obtain rfl : f = true := by
        rw [← hf]
        exact ris_true hM
      go_wp2
      go_ret
      exact ⟨rfl, rfl⟩
theorem rising_is {w : World} {a : Option Addr} (cap : Nat) {xs : List Int} {f : Bool} (hf : risB xs = f) (hl : xs.length ≤ 50) (smp : ISmp w.heap.size w a xs) : Calls Try.prog 58 #[.slice a xs.length cap] w fun e w' => e = .returned (.bool f) ∧ w' = w := by subst hf; exact rising_any cap hl smp
set_option maxHeartbeats 4000000 in
theorem implPlaceOk_any {wd fl : Int} {w : World} {a : Option Addr} (cap : Nat) {xs : List Int} (smp : ISmp w.heap.size w a xs) : Calls Try.prog 27 #[.agg #[.int .i64 wd, .int .i64 fl, .slice a xs.length cap]] w fun e w' => e = .returned (.bool (plB wd fl xs)) ∧ Below w.heap.size w w' := by
  cases h0 : openB wd
  · rw [pl_false (fun h => by have q := h.1; rw [h0] at q; cases q)]
    go_enter Try.func27, Try.ntmps27
    go_wp2_with (first
      | (go_at_call 57; refine (iOpen_is h0 _).mono ?_; rintro e w2 ⟨rfl, rfl⟩))
    go_ret
    exact ⟨rfl, by go_grown⟩
  cases h1 : w10B fl
  · rw [pl_false (fun h => by have q := h.2.1; rw [h1] at q; cases q)]
    go_enter Try.func27, Try.ntmps27
    go_wp2_with (first
      | (go_at_call 57; refine (iOpen_is h0 _).mono ?_; rintro e w2 ⟨rfl, rfl⟩)
      | (go_at_call 50; refine (iWin_is h1 _).mono ?_; rintro e w2 ⟨rfl, rfl⟩))
    go_ret
    exact ⟨rfl, by go_grown⟩
  by_cases h2 : (50 : Int) < (xs.length : Int)
  · rw [pl_false (fun h => by have := h.2.2.1; omega)]
    go_enter Try.func27, Try.ntmps27
    go_wp2_with (first
      | (go_at_call 57; refine (iOpen_is h0 _).mono ?_; rintro e w2 ⟨rfl, rfl⟩)
      | (go_at_call 50; refine (iWin_is h1 _).mono ?_; rintro e w2 ⟨rfl, rfl⟩))
    go_ret
    exact ⟨rfl, by go_grown⟩
  have h2' : decide ((50 : Int) < (xs.length : Int)) = false := decide_eq_false h2
  have h2n : xs.length ≤ 50 := by omega
  cases h3 : risB xs
  · rw [pl_false (fun h => ris_no h3 h.2.2.2)]
    go_enter Try.func27, Try.ntmps27
    go_wp2_with (first
      | (go_at_call 57; refine (iOpen_is h0 _).mono ?_; rintro e w2 ⟨rfl, rfl⟩)
      | (go_at_call 50; refine (iWin_is h1 _).mono ?_; rintro e w2 ⟨rfl, rfl⟩)
      | (go_at_call 58; refine (rising_is cap h3 h2n (smp.here (by go_grown))).mono ?_; rintro e w2 ⟨rfl, rfl⟩))
    go_ret
    exact ⟨rfl, by go_grown⟩
  · rw [pl_true ⟨h0, h1, h2n, ris_yes h3⟩]
    go_enter Try.func27, Try.ntmps27
    go_wp2_with (first
      | (go_at_call 57; refine (iOpen_is h0 _).mono ?_; rintro e w2 ⟨rfl, rfl⟩)
      | (go_at_call 50; refine (iWin_is h1 _).mono ?_; rintro e w2 ⟨rfl, rfl⟩)
      | (go_at_call 58; refine (rising_is cap h3 h2n (smp.here (by go_grown))).mono ?_; rintro e w2 ⟨rfl, rfl⟩))
    go_ret
    exact ⟨rfl, by go_grown⟩
theorem implPlaceOk_is {wd fl : Int} {w : World} {a : Option Addr} (cap : Nat) {xs : List Int} {f : Bool} (hf : plB wd fl xs = f) (smp : ISmp w.heap.size w a xs) : Calls Try.prog 27 #[.agg #[.int .i64 wd, .int .i64 fl, .slice a xs.length cap]] w fun e w' => e = .returned (.bool f) ∧ Below w.heap.size w w' := by subst hf; exact implPlaceOk_any cap smp
theorem ifill_row {w : World} {g : Nat} {t : TypeId} {xs : List Int} (h : w.heap[g]? = some (.cells (flatI xs).toArray t (0, 0))) : IFill w g xs.length xs xs.length :=
  ⟨fun j hj => ⟨⟨xs[j], by rw [cell_of_row w g j _ t (0, 0) h, List.getElem?_toArray]; unfold flatI; rw [List.getElem?_map, List.getElem?_eq_getElem hj]; rfl⟩, frozen_of_row w g j _ t h⟩, fun i hi hk => by rw [cell_of_row w g i _ t (0, 0) h, List.getElem?_toArray]; unfold flatI; rw [List.getElem?_map, List.getElem?_eq_getElem hi]; rfl⟩
theorem splice_all {α : Type} (L cs : List α) (h : L.length = cs.length) : splice L 0 cs = cs := by
  unfold splice
  rw [List.take_zero, List.nil_append, Nat.zero_add, ← h, List.drop_length, List.append_nil]
set_option maxHeartbeats 4000000 in
theorem ownM_any {wd fl : Int} {w : World} {a : Option Addr} (cap : Nat) {xs : List Int} (hl : xs.length ≤ 1048576) (smp : ISmp w.heap.size w a xs) : Calls Try.prog 108 #[.agg #[.int .i64 wd, .int .i64 fl, .slice a xs.length cap]] w (AnsP w xs wd fl) := by
  obtain ⟨i0, hi, hz0, hz1, hz2⟩ := info_parts info_int
  go_enter Try.func108, Try.ntmps108
  go_upto_region 1 with (fail)
  obtain ⟨x, hx⟩ : ∃ x, x = (w.alloc (.cells #[.int .i64 wd, .int .i64 fl, .slice a xs.length cap] 48)).alloc (.cells #[.int .i64 0, .int .i64 0, .slice none 0 0] 48) := ⟨_, rfl⟩
  rw [← hx]
  have hbw : Below w.heap.size w x := by rw [hx]; go_grown
  have zl : w.heap.size + 1 + 1 ≤ x.heap.size := by rw [hx]; simp
  have p0 : x.cell? ⟨w.heap.size, 0, none⟩ = some (.int .i64 wd) := by rw [hx]; go_simp
  have p1 : x.cell? ⟨w.heap.size, 1, none⟩ = some (.int .i64 fl) := by rw [hx]; go_simp
  have p2 : x.cell? ⟨w.heap.size, 2, none⟩ = some (.slice a xs.length cap) := by rw [hx]; go_simp
  have v0 : x.cell? ⟨w.heap.size + 1, 0, none⟩ = some (.int .i64 0) := by rw [hx]; go_simp
  have v1 : x.cell? ⟨w.heap.size + 1, 1, none⟩ = some (.int .i64 0) := by rw [hx]; go_simp
  have v2 : x.cell? ⟨w.heap.size + 1, 2, none⟩ = some (.slice none 0 0) := by rw [hx]; go_simp
  have pz : ∀ o : Nat, x.frozen? ⟨w.heap.size, o, none⟩ = false := fun o => by rw [hx]; go_simp
  have vz : ∀ o : Nat, x.frozen? ⟨w.heap.size + 1, o, none⟩ = false := fun o => by rw [hx]; go_simp
  clear hx
  go_upto_region 2 with (first
    | (at_make; refine wpList_make_full _ rfl _ _ 43 rfl x.heap.size 2 i0 _ 1 Try.underlying43 hi hz0 hz1 _ _ _ _ xs.length rfl rfl rfl rfl (by rw [hz2]; omega) (by unfold maxLen; omega) (Nat.le_refl _) ?_; intro w3 own3 gr3; have hb3 : Below x.heap.size x w3 := (Below.refl _ _).grown gr3 (Nat.le_refl _) (fun k hk => by cases hk); have z3 := zl; have hbw : Below w.heap.size w w3 := below_two hbw hb3; have p0 := (hb3.cell (p := ⟨w.heap.size, 0, none⟩) (by show w.heap.size < _; omega)).trans p0; have p1 := (hb3.cell (p := ⟨w.heap.size, 1, none⟩) (by show w.heap.size < _; omega)).trans p1; have p2 := (hb3.cell (p := ⟨w.heap.size, 2, none⟩) (by show w.heap.size < _; omega)).trans p2; have v0 := (hb3.cell (p := ⟨w.heap.size + 1, 0, none⟩) (by show w.heap.size + 1 < _; omega)).trans v0; have v1 := (hb3.cell (p := ⟨w.heap.size + 1, 1, none⟩) (by show w.heap.size + 1 < _; omega)).trans v1; have v2 := (hb3.cell (p := ⟨w.heap.size + 1, 2, none⟩) (by show w.heap.size + 1 < _; omega)).trans v2; have vz : ∀ o : Nat, w3.frozen? ⟨w.heap.size + 1, o, none⟩ = false := fun o => (hb3.frozen (p := ⟨w.heap.size + 1, o, none⟩) (by show w.heap.size + 1 < _; omega)).trans (vz o); have zl : w.heap.size + 1 + 1 ≤ w3.heap.size := Nat.le_trans zl hb3.size; have pz : ∀ o : Nat, w3.frozen? ⟨w.heap.size, o, none⟩ = false := (fun o => (hb3.frozen (p := ⟨w.heap.size, o, none⟩) (by show w.heap.size < _; omega)).trans (pz o))))
  obtain ⟨L, hL, hrow⟩ : ∃ L : List Value, L.length = xs.length ∧ w3.heap[x.heap.size]? = some (.cells L.toArray 2 (0, 0)) := by
    rcases own3.2 with ⟨e, _⟩ | ⟨g, c, cur, e, _, hg, hnc, hcm, hcs, _⟩
    · cases e
    · cases e
      exact ⟨cur.toList, by rw [Array.length_toList, hcs]; omega, by simpa using hg⟩
  have hsm : Hid (∀ j v, (flatI xs)[j]? = some v → ∃ ad, a = some ad ∧ w3.cell? (ad.add j) = some v) := fun j v hv => by
    have hj : j < xs.length := by have := (List.getElem?_eq_some_iff.1 hv).1; rwa [flatI_length] at this
    obtain ⟨b, off, e, _⟩ := smp j hj
    subst e
    exact ⟨_, rfl, ismp_news (smp.mono hbw) j v hv⟩
  have HL : Hid (L.length = xs.length) := hL
  have HSM : Hid (∀ u ∈ flatI xs, u.oneCell' = true) := flatI_one xs
  obtain ⟨X1, hX1⟩ : ∃ X1, X1 = flatI xs := ⟨_, rfl⟩
  have HX : Hid (X1.length = xs.length) := by show _ = _; rw [hX1, flatI_length]
  have HXE : Hid (X1 = flatI xs) := hX1
  rw [← hX1] at hsm HSM
  clear hX1 hL
  have hpos : Hid (0 < X1.length → (some (⟨x.heap.size, 0, none⟩ : Addr)) = some ⟨x.heap.size, 0, none⟩ ∧ ∃ ad, a = some ad ∧ ∀ j v, X1[j]? = some v → w3.cell? (ad.add j) = some v) := fun h0 => ⟨rfl, by
    obtain ⟨ad, e, _⟩ := hsm.out 0 X1[0] (List.getElem?_eq_getElem h0)
    exact ⟨ad, e, fun j v hv => by obtain ⟨ad', e', h⟩ := hsm.out j v hv; rw [e] at e'; cases e'; exact h⟩⟩
  go_upto_region 3 with (first
    | (refine wpList_copy_splice rfl (.tmp 8) (.tmp 10) 43 43 rfl 2 Try.underlying43 (by kernel_rfl) _ _ _ _ _ _ rfl rfl x.heap.size 0 L 2 hrow X1 (HX.out.trans (Nat.min_self _).symm) hpos.out (by have := HX.out; have := HL.out; omega) HSM.out x.heap.size w3 (Below.refl _ _) (Nat.le_refl _) ?_; intro w4 HG4 hb4))
  have gr : x.heap.size < w3.heap.size := (own3.lt _ rfl).2
  have oC : Below w.heap.size w w4 := hbw.trans (hb4.mono (by omega))
  have f4 : IFill w4 x.heap.size xs.length xs xs.length := by
    have h := HG4.out
    rw [splice_all _ _ (HL.out.trans HX.out.symm), HXE.out] at h
    exact ifill_row h
  have z4 := hb4.size
  have p0 := (hb4.cell (p := ⟨w.heap.size, 0, none⟩) (by show w.heap.size < _; omega)).trans p0
  have p1 := (hb4.cell (p := ⟨w.heap.size, 1, none⟩) (by show w.heap.size < _; omega)).trans p1
  have p2 := (hb4.cell (p := ⟨w.heap.size, 2, none⟩) (by show w.heap.size < _; omega)).trans p2
  have v0 := (hb4.cell (p := ⟨w.heap.size + 1, 0, none⟩) (by show w.heap.size + 1 < _; omega)).trans v0
  have v1 := (hb4.cell (p := ⟨w.heap.size + 1, 1, none⟩) (by show w.heap.size + 1 < _; omega)).trans v1
  have v2 := (hb4.cell (p := ⟨w.heap.size + 1, 2, none⟩) (by show w.heap.size + 1 < _; omega)).trans v2
  have pz : ∀ o : Nat, w4.frozen? ⟨w.heap.size, o, none⟩ = false := fun o => (hb4.frozen (p := ⟨w.heap.size, o, none⟩) (by show w.heap.size < _; omega)).trans (pz o)
  have vz : ∀ o : Nat, w4.frozen? ⟨w.heap.size + 1, o, none⟩ = false := fun o => (hb4.frozen (p := ⟨w.heap.size + 1, o, none⟩) (by show w.heap.size + 1 < _; omega)).trans (vz o)
  have gx : x.heap.size < w4.heap.size := by omega
  clear HG4 hrow hpos hsm own3 gr3 HL HX HXE HSM
  go_upto_region 4 with (fail)
  obtain ⟨x4, hx4⟩ : ∃ y, y = w4.setCell ⟨w.heap.size, 2, none⟩ (.slice (some ⟨x.heap.size, 0, none⟩) xs.length xs.length) := ⟨_, rfl⟩
  rw [← hx4]
  have oX : Only w.heap.size w4 x4 := by rw [hx4]; exact (Only.refl _ w4).setCell (p := ⟨w.heap.size, 2, none⟩) rfl _
  have p0 : x4.cell? ⟨w.heap.size, 0, none⟩ = some (.int .i64 wd) := by rw [hx4]; exact (set_other4 (by decide)).trans p0
  have p1 : x4.cell? ⟨w.heap.size, 1, none⟩ = some (.int .i64 fl) := by rw [hx4]; exact (set_other4 (by decide)).trans p1
  have p2 : x4.cell? ⟨w.heap.size, 2, none⟩ = some (.slice (some ⟨x.heap.size, 0, none⟩) xs.length xs.length) := by rw [hx4]; exact set_same4 _ p2
  have v0 : x4.cell? ⟨w.heap.size + 1, 0, none⟩ = some (.int .i64 0) := (oX.cell (by show w.heap.size + 1 < _; omega) (by show w.heap.size + 1 ≠ _; omega)).trans v0
  have v1 : x4.cell? ⟨w.heap.size + 1, 1, none⟩ = some (.int .i64 0) := (oX.cell (by show w.heap.size + 1 < _; omega) (by show w.heap.size + 1 ≠ _; omega)).trans v1
  have v2 : x4.cell? ⟨w.heap.size + 1, 2, none⟩ = some (.slice none 0 0) := (oX.cell (by show w.heap.size + 1 < _; omega) (by show w.heap.size + 1 ≠ _; omega)).trans v2
  have vz : ∀ o : Nat, x4.frozen? ⟨w.heap.size + 1, o, none⟩ = false := fun o => (oX.frozen (by show w.heap.size + 1 < _; omega) (by show w.heap.size + 1 ≠ _; omega)).trans (vz o)
  have f4 : IFill x4 x.heap.size xs.length xs xs.length := f4.only oX gx (by omega)
  have hbw : Below w.heap.size w x4 := oC.trans (oX.below (Nat.le_refl _) (by omega))
  have zX := oX.size
  clear hx4 oX
  go_wp2
  obtain ⟨y, ey, cs, fzy, sz, hbel, hon⟩ := over3 (.int .i64 wd) (.int .i64 fl) (.slice (some ⟨x.heap.size, 0, none⟩) xs.length xs.length) (w := x4) (g := w.heap.size + 1) v0 v1 v2
  rw [← ey]
  refine bodyPost_ret (results_one rfl _ _ _ [.int .i64 wd, .int .i64 fl, .slice (some ⟨x.heap.size, 0, none⟩) xs.length xs.length] rfl cs Try.underlying48 rfl (by kernel_rfl)) rfl ?_
  exact ⟨_, _, _, rfl, .inl ⟨x.heap.size, xs.length, rfl, by omega, by omega, f4.only hon (by omega) (by omega), Nat.le_refl _⟩, hbw.trans (hbel _ (by omega))⟩
end Go.Proofs.Ytoeiheccmpjclaq
